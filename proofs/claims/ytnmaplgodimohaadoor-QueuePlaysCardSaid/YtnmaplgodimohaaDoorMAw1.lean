/- Merged: TabEnc TabDec TabPure TabBack TabRef TabRefE AwV TabRefD TabWakes OpsSpec Itm ItmOpen QueCat AwP OpsPlc OpsWt OpsMk OpsDel OpsDl OpsGn OpsOwn OpsGnR OpsMkR. -/
import Derived.Deep.DeepAppendRoom
import Derived.Test.YtnmaplgodimohaaDoorMAw0
import Derived.Test.YtnmaplgodimohaaDoorMGen0
import Derived.Test.YtnmaplgodimohaaDoorMStr0
/- The volumes' block: the program's. -/
set_option maxRecDepth 4000
namespace Go.Proofs.YtnmaplgodimohaaDoor
open Go Go.RowKit
theorem vols_getC {w : World} {b o n c : Nat} {l : List Tv} (h : VolsAt w (.slice (some ⟨b, o, none⟩) n c) (volL l)) {k : Nat} (hk : k < n) :
    ∃ p L B m c', l[k]? = some (p, L) ∧ (∀ W, Below w.heap.size w W → W.rangeAt b (o + k * 2) [.string (strB p), .slice B m c'] ∧ IntsAt W (.slice B m c') L) ∧ L.length = m ∧ p.length ≤ maxLen := by
  obtain ⟨b', o', s, L, B, m, c', h1, h2, h0, h3, h4, h5, h6⟩ := vols_get h (k := k) (by rw [vols_len h]; exact hk)
  injection h2 with h2
  injection h2 with h2 h7
  subst h2 h7
  obtain ⟨p, h8, rfl⟩ := volL_get h1
  exact ⟨p, L, B, m, c', h8, fun W hb => ⟨fun j v hv => (hb.cell (p := ⟨b, o + k * 2 + j, none⟩) h0).trans (h3 j v hv), h4.below hb (Nat.le_refl _)⟩, h5, by rw [strB_size] at h6; exact h6⟩
/- the volumes' block -/
def encB (l : List Tv) : List (BitVec 8) := [byteI l.length] ++ l.flatMap volE ++ zer (31 - 9 * l.length)
def encT (l : List Tv) : List (BitVec 8) := if goodT l then encB l else zer 32
def encE (l : List Tv) : Int := if goodT l then 0 else 11
theorem len_flatE : ∀ l : List Tv, (l.flatMap volE).length = 9 * l.length
  | [] => rfl
  | x :: l => by rw [List.flatMap_cons, List.length_append, length_volE, len_flatE l, List.length_cons]; omega
theorem length_encB {l : List Tv} (h : l.length ≤ 3) : (encB l).length = 32 := by
  unfold encB; rw [List.length_append, List.length_append, len_flatE, length_zer]; simp only [List.length_cons, List.length_nil]; omega
theorem length_encT (l : List Tv) : (encT l).length = 32 := by
  unfold encT
  split
  · rename_i h; exact length_encB (goodT_parts h).1
  · exact length_zer 32
theorem spl_zer (A E : List (BitVec 8)) (m n o : Nat) (hE : E.length = m) (hA : A.length = o) : spl (A ++ zer (m + n)) o E = (A ++ E) ++ zer n := by
  subst hE hA
  unfold spl
  rw [List.take_left' rfl]
  congr 1
  rw [← List.drop_drop, List.drop_left' rfl]
  unfold zer
  simp
theorem tvs_1 {l : List Tv} {x : Tv} (h : l.length = 1) (h0 : l[0]? = some x) : l = [x] := by
  obtain ⟨a, rfl⟩ := list_1 h
  simp at h0; rw [h0]
theorem tvs_2 {l : List Tv} {x y : Tv} (h : l.length = 2) (h0 : l[0]? = some x) (h1 : l[1]? = some y) : l = [x, y] := by
  obtain ⟨a, b, rfl⟩ := list_2 h
  simp at h0 h1; rw [h0, h1]
theorem tvs_3 {l : List Tv} {x y z : Tv} (h : l.length = 3) (h0 : l[0]? = some x) (h1 : l[1]? = some y) (h2 : l[2]? = some z) : l = [x, y, z] := by
  obtain ⟨a, b, c, rfl⟩ := list_3 h
  simp at h0 h1 h2; rw [h0, h1, h2]
theorem set0 (x : BitVec 8) : (zer 32).set 0 x = [x] ++ zer 31 := rfl
theorem encB_0 : (zer 32).set 0 0#8 = encB [] := rfl
theorem encB_1 (x : Tv) : spl ((zer 32).set 0 1#8) 1 (volE x) = encB [x] := by
  rw [set0, spl_zer [1#8] (volE x) 9 22 1 (length_volE x) rfl]
  unfold encB
  simp [byteI]
theorem encB_2 (x y : Tv) : spl (spl ((zer 32).set 0 2#8) 1 (volE x)) 10 (volE y) = encB [x, y] := by
  rw [set0, spl_zer [2#8] (volE x) 9 22 1 (length_volE x) rfl, spl_zer ([2#8] ++ volE x) (volE y) 9 13 10 (length_volE y) (by rw [List.length_append, length_volE]; rfl)]
  unfold encB
  simp [byteI]
theorem encB_3 (x y z : Tv) : spl (spl (spl ((zer 32).set 0 3#8) 1 (volE x)) 10 (volE y)) 19 (volE z) = encB [x, y, z] := by
  rw [set0, spl_zer [3#8] (volE x) 9 22 1 (length_volE x) rfl, spl_zer ([3#8] ++ volE x) (volE y) 9 13 10 (length_volE y) (by rw [List.length_append, length_volE]; rfl), spl_zer ([3#8] ++ volE x ++ volE y) (volE z) 9 4 19 (length_volE z) (by rw [List.length_append, List.length_append, length_volE, length_volE]; rfl)]
  unfold encB
  simp [byteI]
set_option maxHeartbeats 800000 in
theorem enct_bad (A : Option Addr) (n c : Nat) (l : List Tv) (w : World) (hv : VolsAt w (.slice A n c) (volL l)) (hn : n ≤ 1000000) (hml : ∀ x ∈ l, x.2.length ≤ 1000000) (hG : goodT l = false) :
    Calls Tryd.prog 48 #[.slice A n c] w fun e w' => e = .returned (.tuple #[.agg (bs (encT l)), .int .i64 (encE l)]) ∧ Below w.heap.size w w' := by
  have HS := St.nil w noF
  refine enter_en Tryd.func48 rfl Tryd.ntmps48 (Nat.le_of_ble_eq_true rfl) fun a0 (HA0 : En 33 [(0, .slice A n c)] a0) => ?_
  refine sq_ <| rl_ <| wl_ <| n_ HA0 rfl (fun _ h => dd_new HS (bs (zer 32)) rfl (z := .agg (bs (zer 32))) (by kernel_rfl) rfl h) fun g2 W1 HS1 a1 H1 => wl_ <| p_ H1 rfl rfl fun a2 H2 => ln_ <| nx <| sq_ <| sq_ <| rl_ <| wl_ <| p_ H2 rfl rfl fun a3 H3 => wl_ <| c_ H3 rfl HS1 (v := .bool false) (dc_ Tryd.func56 rfl (args1 (H3.ev 8 rfl)) (goodt_any _ _ _ l W1 (hv.below HS1.below (Nat.le_refl _)) hn hml) (fun _ w9 h9 => ⟨_, h9.1, by rw [hG], h9.2⟩)) fun W4 HS4 a4 H4 => wl_ <| i_ H4 rfl (v := .bool true) (dd_nt rfl (H4.ev 9 rfl) rfl) fun a5 H5 => ln_ <| nx <| ct_ H5 rfl <| sq_ <| rl_ <| wl_ <| i_ H5 rfl (v := .agg (bs (zer 32))) (dd_bldk rfl (ps := []) (pr0) (cs := bs (zer 32)) (by kernel_rfl)) fun a6 H6 => wl_ <| t_ rfl (fun _ h => dd_setrow HS4 0 rfl rfl (H6.ev 2 rfl) (H6.ev 11 rfl) (by kernel_rfl) (((size_bs _).trans (length_zer 32)) : (bs (zer 32)).size = 32) (((size_bs _).trans (length_zer 32)) : (bs (zer 32)).size = 32) (one_bs _) h) fun W7 HS7 => wl_ <| p_ H6 rfl rfl fun a8 H8 => ?_
  clear HS HA0 a0 H1 a1 H2 a2 H3 a3 HS1 H4 a4 H5 a5 HS4
  refine ln_ <| nx <| wp_ret <| tr <| ret_run H8.env0 (res_ct Tryd.results48 (H8.get 2 rfl) (HS7.row 0 rfl) Tryd.underlying36 rfl (by rw [show (bs (zer 32)).size = 32 from ((size_bs _).trans (length_zer 32))]; kernel_rfl) (H8.get 3 rfl)) <| ?_
  clear H6 a6
  exact ⟨by unfold encT encE; rw [hG]; rfl, HS7.below⟩
set_option maxHeartbeats 1600000 in
theorem enct0 (c : Nat) (A : Option Addr) (l : List Tv) (w : World) (hv : VolsAt w (.slice A 0 c) (volL l)) (hml : ∀ x ∈ l, x.2.length ≤ 1000000) (hG : goodT l = true) :
    Calls Tryd.prog 48 #[.slice A 0 c] w fun e w' => e = .returned (.tuple #[.agg (bs (encT l)), .int .i64 (encE l)]) ∧ Below w.heap.size w w' := by
  have HS := St.nil w noF
  have hn : 0 ≤ 1000000 := by decide
  have hln : l.length = 0 := by rw [← len_volL]; exact vols_len hv
  refine enter_en Tryd.func48 rfl Tryd.ntmps48 (Nat.le_of_ble_eq_true rfl) fun a0 (HA0 : En 33 [(0, .slice A 0 c)] a0) => ?_
  refine sq_ <| rl_ <| wl_ <| n_ HA0 rfl (fun _ h => dd_new HS (bs (zer 32)) rfl (z := .agg (bs (zer 32))) (by kernel_rfl) rfl h) fun g2 W1 HS1 a1 H1 => wl_ <| p_ H1 rfl rfl fun a2 H2 => ln_ <| nx <| sq_ <| sq_ <| rl_ <| wl_ <| p_ H2 rfl rfl fun a3 H3 => wl_ <| c_ H3 rfl HS1 (v := .bool true) (dc_ Tryd.func56 rfl (args1 (H3.ev 8 rfl)) (goodt_any _ _ _ l W1 (hv.below HS1.below (Nat.le_refl _)) hn hml) (fun _ w9 h9 => ⟨_, h9.1, by rw [hG], h9.2⟩)) fun W4 HS4 a4 H4 => wl_ <| i_ H4 rfl (v := .bool false) (dd_nt rfl (H4.ev 9 rfl) rfl) fun a5 H5 => ln_ <| nx <| cf_ H5 rfl <| wp_skip <| nx <| sq_ <| rl_ <| wl_ <| n_ H5 rfl (fun _ h => dd_new HS4 (bs (zer 32)) rfl (z := .agg (bs (zer 32))) (by kernel_rfl) rfl h) fun g4 W6 HS6 a6 H6 => ln_ <| nx <| sq_ <| rl_ <| wl_ <| p_ H6 rfl rfl fun a7 H7 => wl_ <| i_ H7 rfl (v := .int .i64 0) (dd_len rfl (H7.ev 12 rfl) Tryd.underlying75) fun a8 H8 => ?_
  clear HS HA0 a0 H1 a1 H2 a2 H3 a3 HS1 H4 a4 HS4 H5 a5 H6 a6
  refine wl_ <| i_ H8 rfl (v := .int .u8 0) (dd_conv (k := .u8) rfl (H8.ev 13 rfl) Tryd.underlying3 (by kernel_rfl) (by decide)) fun a9 H9 => wl_ <| i_ H9 rfl (xA 32 1 0 rfl (H9.ev 4 rfl) rfl) fun a10 H10 => wl_ <| t_ rfl (S := [⟨g2, 36, bs (zer 32)⟩, ⟨g4, 36, bs ((zer 32).set 0 (0#8))⟩]) (fun _ h => dd_put HS6 1 0 rfl rfl (H10.ev 15 rfl) (H10.ev 14 rfl) (by kernel_rfl) rfl rfl (by rw [((size_bs _).trans (length_zer 32))]; rfl) (set_bs _ _ (0#8)) h) fun W11 HS11 => ln_ <| nx <| sq_ <| sq_ <| rl_ <| wl_ <| p_ H10 rfl rfl fun a12 H12 => wl_ <| i_ H12 rfl (v := .int .i64 0) (dd_len rfl (H12.ev 16 rfl) Tryd.underlying75) fun a13 H13 => wl_ <| p_ H13 rfl rfl fun a14 H14 => ln_ <| nx <| wp_block <| wp_unr 1 <| unr_go <| sq_ <| rl_ <| wl_ <| i_ H14 rfl (dd_cmp rfl (H14.ev 18 rfl) (H14.ev 17 rfl) (lt_f (by decide))) fun a15 H15 => ln_ <| nx <| sq_ <| cf_ H15 rfl <| wp_exit <| tx <| tx <| bx <| nx <| sq_ <| rl_ <| wl_ <| i_ H15 rfl (v := .agg (bs ((zer 32).set 0 (0#8)))) (dd_load HS11 1 0 rfl rfl (H15.ev 4 rfl) (slab_whole _) Tryd.underlying36 rfl (by rw [show (bs ((zer 32).set 0 (0#8))).size = 32 from ((size_bs _).trans (len_set (length_zer 32)))]; kernel_rfl)) fun a16 H16 => ?_
  clear H7 a7 H8 a8 H9 a9 HS6 H10 a10 H12 a12 H13 a13 H14 a14
  refine wl_ <| t_ rfl (fun _ h => dd_setrow HS11 0 rfl rfl (H16.ev 2 rfl) (H16.ev 32 rfl) (by kernel_rfl) (((size_bs _).trans (len_set (length_zer 32))) : (bs ((zer 32).set 0 (0#8))).size = 32) (((size_bs _).trans (length_zer 32)) : (bs (zer 32)).size = 32) (one_bs _) h) fun W17 HS17 => wl_ <| p_ H16 rfl rfl fun a18 H18 => ln_ <| nx <| wp_ret <| ret_run H18.env0 (res_ct Tryd.results48 (H18.get 2 rfl) (HS17.row 0 rfl) Tryd.underlying36 rfl (by rw [show (bs ((zer 32).set 0 (0#8))).size = 32 from ((size_bs _).trans (len_set (length_zer 32)))]; kernel_rfl) (H18.get 3 rfl)) <| ?_
  clear H15 a15 HS11 H16 a16
  have hl : l = [] := list_0 hln
  exact ⟨by unfold encT encE; rw [hG, if_pos rfl, if_pos rfl, hl, ← encB_0], HS17.below⟩
set_option maxHeartbeats 1600000 in
theorem enct1 (b o c : Nat) (l : List Tv) (w : World) (hv : VolsAt w (.slice (some ⟨b, o, none⟩) 1 c) (volL l)) (hml : ∀ x ∈ l, x.2.length ≤ 1000000) (hG : goodT l = true) :
    Calls Tryd.prog 48 #[.slice (some ⟨b, o, none⟩) 1 c] w fun e w' => e = .returned (.tuple #[.agg (bs (encT l)), .int .i64 (encE l)]) ∧ Below w.heap.size w w' := by
  have HS := St.nil w noF
  have hn : 1 ≤ 1000000 := by decide
  have hln : l.length = 1 := by rw [← len_volL]; exact vols_len hv
  refine enter_en Tryd.func48 rfl Tryd.ntmps48 (Nat.le_of_ble_eq_true rfl) fun a0 (HA0 : En 33 [(0, .slice (some ⟨b, o, none⟩) 1 c)] a0) => ?_
  refine sq_ <| rl_ <| wl_ <| n_ HA0 rfl (fun _ h => dd_new HS (bs (zer 32)) rfl (z := .agg (bs (zer 32))) (by kernel_rfl) rfl h) fun g2 W1 HS1 a1 H1 => wl_ <| p_ H1 rfl rfl fun a2 H2 => ln_ <| nx <| sq_ <| sq_ <| rl_ <| wl_ <| p_ H2 rfl rfl fun a3 H3 => wl_ <| c_ H3 rfl HS1 (v := .bool true) (dc_ Tryd.func56 rfl (args1 (H3.ev 8 rfl)) (goodt_any _ _ _ l W1 (hv.below HS1.below (Nat.le_refl _)) hn hml) (fun _ w9 h9 => ⟨_, h9.1, by rw [hG], h9.2⟩)) fun W4 HS4 a4 H4 => wl_ <| i_ H4 rfl (v := .bool false) (dd_nt rfl (H4.ev 9 rfl) rfl) fun a5 H5 => ln_ <| nx <| cf_ H5 rfl <| wp_skip <| nx <| sq_ <| rl_ <| wl_ <| n_ H5 rfl (fun _ h => dd_new HS4 (bs (zer 32)) rfl (z := .agg (bs (zer 32))) (by kernel_rfl) rfl h) fun g4 W6 HS6 a6 H6 => ln_ <| nx <| sq_ <| rl_ <| wl_ <| p_ H6 rfl rfl fun a7 H7 => wl_ <| i_ H7 rfl (v := .int .i64 1) (dd_len rfl (H7.ev 12 rfl) Tryd.underlying75) fun a8 H8 => ?_
  clear HS HA0 a0 H1 a1 H2 a2 H3 a3 HS1 H4 a4 HS4 H5 a5 H6 a6
  refine wl_ <| i_ H8 rfl (v := .int .u8 1) (dd_conv (k := .u8) rfl (H8.ev 13 rfl) Tryd.underlying3 (by kernel_rfl) (by decide)) fun a9 H9 => wl_ <| i_ H9 rfl (xA 32 1 0 rfl (H9.ev 4 rfl) rfl) fun a10 H10 => wl_ <| t_ rfl (S := [⟨g2, 36, bs (zer 32)⟩, ⟨g4, 36, bs ((zer 32).set 0 (1#8))⟩]) (fun _ h => dd_put HS6 1 0 rfl rfl (H10.ev 15 rfl) (H10.ev 14 rfl) (by kernel_rfl) rfl rfl (by rw [((size_bs _).trans (length_zer 32))]; rfl) (set_bs _ _ (1#8)) h) fun W11 HS11 => ln_ <| nx <| sq_ <| sq_ <| rl_ <| wl_ <| p_ H10 rfl rfl fun a12 H12 => wl_ <| i_ H12 rfl (v := .int .i64 1) (dd_len rfl (H12.ev 16 rfl) Tryd.underlying75) fun a13 H13 => wl_ <| p_ H13 rfl rfl fun a14 H14 => ln_ <| nx <| wp_block <| wp_unr 2 <| unr_go <| sq_ <| rl_ <| wl_ <| i_ H14 rfl (dd_cmp rfl (H14.ev 18 rfl) (H14.ev 17 rfl) (lt_t (by decide))) fun a15 H15 => ln_ <| nx <| sq_ <| ct_ H15 rfl <| wp_skip <| nx <| sq_ <| wp_block <| sq_ <| rl_ <| wl_ <| p_ H15 rfl rfl fun a16 H16 => ?_
  clear H7 a7 H8 a8 H9 a9 HS6 H10 a10 H12 a12 H13 a13 H14 a14
  refine wl_ <| i_ H16 rfl (xS 2 (o + 0) rfl (H16.ev 16 rfl) (H16.ev 18 rfl)) fun a17 H17 => ?_
  clear H15 a15 H16 a16
  obtain ⟨p19, L19, B19, m19, c19, hg19, hr19, hm19, hp19⟩ := vols_getC hv (k := 0) (by decide)
  refine wl_ <| i_ H17 rfl (v := .agg #[.string (strB p19), .slice B19 m19 c19]) (dd_atN rfl (H17.ev 21 rfl) (hr19 _ HS11.below).1 Tryd.underlying81 rfl (by kernel_rfl)) fun a18 H18 => wl_ <| n_ H18 rfl (fun _ h => dd_new HS11 #[.string (⟨#[]⟩), .slice none 0 0] rfl (z := .agg #[.string (⟨#[]⟩), .slice none 0 0]) (by kernel_rfl) rfl h) fun g6 W20 HS20 a20 H20 => wl_ <| p_ H20 rfl rfl fun a21 H21 => wl_ <| t_ rfl (fun _ h => dd_setrow HS20 2 rfl rfl (H21.ev 6 rfl) (H21.ev 22 rfl) (by kernel_rfl) (rfl : #[.string (strB p19), .slice B19 m19 c19].size = 2) (rfl : #[.string (⟨#[]⟩), .slice none 0 0].size = 2) (one_l (ao_cons rfl (ao_cons rfl ao_nil))) h) fun W22 HS22 => ln_ <| nx <| sq_ <| rl_ <| wl_ <| i_ H21 rfl (v := .agg #[.string (strB p19), .slice B19 m19 c19]) (dd_load HS22 2 0 rfl rfl (H21.ev 6 rfl) (slab_whole _) Tryd.underlying81 rfl (by kernel_rfl)) fun a23 H23 => wl_ <| c_ H23 rfl HS22 (dcs Tryd.func57 rfl (args1 (H23.ev 23 rfl)) (tobytes_any _ _ _ p19 L19 W22 (hr19 _ HS22.below).2 (by have h9 := okT_parts ((goodT_parts hG).2.1 _ _ hg19); simp only at h9; omega)) (.agg (bs (volE (p19, L19))))) fun W24 HS24 a24 H24 => wl_ <| n_ H24 rfl (fun _ h => dd_new HS24 (bs (zer 9)) rfl (z := .agg (bs (zer 9))) (by kernel_rfl) rfl h) fun g7 W25 HS25 a25 H25 => wl_ <| t_ rfl (fun _ h => dd_setrow HS25 3 rfl rfl (H25.ev 7 rfl) (H25.ev 24 rfl) (by kernel_rfl) (((size_bs _).trans (length_volE _)) : (bs (volE (p19, L19))).size = 9) (((size_bs _).trans (length_zer 9)) : (bs (zer 9)).size = 9) (one_bs _) h) fun W26 HS26 => ?_
  clear H17 a17 HS11 H18 a18 H20 a20 HS20 H21 a21 H23 a23 HS22 HS24 H24 a24
  refine ln_ <| ?_
  clear HS25
  have H27 := H25.sel [2, 4, 16, 17, 18, 5, 7] rfl
  refine nx <| ?_
  clear H25
  refine wi_ HS26 [0, 2, 3] rfl [0, 2, 3, 1] rfl fun HSh28 hx28 => hp_ H27 0 hx28 rfl rfl rfl fun a29 H29 => ht_ H29 1 hx28 rfl rfl (v := .int .i64 0) (fun _ _ _ => dd_ari rfl (H29.ev 25 rfl) rfl rfl (by decide)) fun a30 H30 => ht_ H30 2 hx28 rfl rfl (v := .int .i64 1) (fun _ _ _ => dd_ari rfl rfl (H30.ev 26 rfl) rfl (by decide)) fun a31 H31 => ht_ H31 3 hx28 rfl rfl (v := .slice (some ⟨g4, 1, none⟩) 31 31) (fun _ _ _ => dd_slAl (l := 1) (n := 32) (sz := 1) (j := 1) rfl (H31.ev 4 rfl) (H31.ev 27 rfl) (by kernel_rfl) (by decide) rfl rfl) fun a32 H32 => ht_ H32 4 hx28 rfl rfl (v := .slice (some ⟨g7, 0, none⟩) 9 9) (fun _ _ _ => dd_slA (n := 9) (sz := 1) rfl (H32.ev 7 rfl) (by kernel_rfl)) fun a33 H33 => h1_ 5 rfl <| tv H33 rfl (S := [⟨g2, 36, bs (zer 32)⟩, ⟨g4, 36, bs (spl ((zer 32).set 0 (1#8)) 1 (volE (p19, L19)))⟩, ⟨g6, 81, #[.string (strB p19), .slice B19 m19 c19]⟩, ⟨g7, 110, bs (volE (p19, L19))⟩]) (v := .int .i64 9) (fun _ h => dd_copyR HSh28 1 rfl (len_set (length_zer 32)) rfl (H33.ev 28 rfl) (H33.ev 29 rfl) (slice_part (HSh28.row 3 rfl) 0 (bytes_slab (slab_whole _)) (length_volE _) (by decide)) (length_volE _) (by decide) (by decide) h) fun W34 HS34 a34 H34 => sx_ (sxi HS34 [0, 2, 3, 1] rfl) fun hx35 => ?_
  clear HS26 H27 a25 H29 a29 H30 a30 H31 a31 H32 a32 HSh28 H33 a33
  clear hx28
  refine wpAnyH_done (by kernel_rfl) ?_ _
  clear hx35
  refine bn <| nx <| rl_ <| wl_ <| i_ H34 rfl (v := .int .i64 1) (dd_ari rfl (H34.ev 18 rfl) rfl rfl (by decide)) fun a36 H36 => wl_ <| p_ H36 rfl rfl fun a37 H37 => ln_ <| nx <| unr_go <| sq_ <| rl_ <| wl_ <| i_ H37 rfl (dd_cmp rfl (H37.ev 18 rfl) (H37.ev 17 rfl) (lt_f (by decide))) fun a38 H38 => ln_ <| nx <| sq_ <| cf_ H38 rfl <| wp_exit <| tx <| tx <| bx <| nx <| sq_ <| rl_ <| wl_ <| i_ H38 rfl (v := .agg (bs (spl ((zer 32).set 0 (1#8)) 1 (volE (p19, L19))))) (dd_load HS34 1 0 rfl rfl (H38.ev 4 rfl) (slab_whole _) Tryd.underlying36 rfl (by rw [show (bs (spl ((zer 32).set 0 (1#8)) 1 (volE (p19, L19)))).size = 32 from ((size_bs _).trans (len_spl (len_set (length_zer 32)) (length_volE _) (by decide)))]; kernel_rfl)) fun a39 H39 => wl_ <| t_ rfl (fun _ h => dd_setrow HS34 0 rfl rfl (H39.ev 2 rfl) (H39.ev 32 rfl) (by kernel_rfl) (((size_bs _).trans (len_spl (len_set (length_zer 32)) (length_volE _) (by decide))) : (bs (spl ((zer 32).set 0 (1#8)) 1 (volE (p19, L19)))).size = 32) (((size_bs _).trans (length_zer 32)) : (bs (zer 32)).size = 32) (one_bs _) h) fun W40 HS40 => wl_ <| p_ H39 rfl rfl fun a41 H41 => ln_ <| nx <| wp_ret <| ret_run H41.env0 (res_ct Tryd.results48 (H41.get 2 rfl) (HS40.row 0 rfl) Tryd.underlying36 rfl (by rw [show (bs (spl ((zer 32).set 0 (1#8)) 1 (volE (p19, L19)))).size = 32 from ((size_bs _).trans (len_spl (len_set (length_zer 32)) (length_volE _) (by decide)))]; kernel_rfl) (H41.get 3 rfl)) <| ?_
  clear H34 a34 H36 a36 H37 a37 H38 a38 HS34 H39 a39
  have hl : l = [(p19, L19)] := tvs_1 hln hg19
  exact ⟨by unfold encT encE; rw [hG, if_pos rfl, if_pos rfl, hl, ← encB_1], HS40.below⟩
set_option maxHeartbeats 1600000 in
theorem enct2 (b o c : Nat) (l : List Tv) (w : World) (hv : VolsAt w (.slice (some ⟨b, o, none⟩) 2 c) (volL l)) (hml : ∀ x ∈ l, x.2.length ≤ 1000000) (hG : goodT l = true) :
    Calls Tryd.prog 48 #[.slice (some ⟨b, o, none⟩) 2 c] w fun e w' => e = .returned (.tuple #[.agg (bs (encT l)), .int .i64 (encE l)]) ∧ Below w.heap.size w w' := by
  have HS := St.nil w noF
  have hn : 2 ≤ 1000000 := by decide
  have hln : l.length = 2 := by rw [← len_volL]; exact vols_len hv
  refine enter_en Tryd.func48 rfl Tryd.ntmps48 (Nat.le_of_ble_eq_true rfl) fun a0 (HA0 : En 33 [(0, .slice (some ⟨b, o, none⟩) 2 c)] a0) => ?_
  refine sq_ <| rl_ <| wl_ <| n_ HA0 rfl (fun _ h => dd_new HS (bs (zer 32)) rfl (z := .agg (bs (zer 32))) (by kernel_rfl) rfl h) fun g2 W1 HS1 a1 H1 => wl_ <| p_ H1 rfl rfl fun a2 H2 => ln_ <| nx <| sq_ <| sq_ <| rl_ <| wl_ <| p_ H2 rfl rfl fun a3 H3 => wl_ <| c_ H3 rfl HS1 (v := .bool true) (dc_ Tryd.func56 rfl (args1 (H3.ev 8 rfl)) (goodt_any _ _ _ l W1 (hv.below HS1.below (Nat.le_refl _)) hn hml) (fun _ w9 h9 => ⟨_, h9.1, by rw [hG], h9.2⟩)) fun W4 HS4 a4 H4 => wl_ <| i_ H4 rfl (v := .bool false) (dd_nt rfl (H4.ev 9 rfl) rfl) fun a5 H5 => ln_ <| nx <| cf_ H5 rfl <| wp_skip <| nx <| sq_ <| rl_ <| wl_ <| n_ H5 rfl (fun _ h => dd_new HS4 (bs (zer 32)) rfl (z := .agg (bs (zer 32))) (by kernel_rfl) rfl h) fun g4 W6 HS6 a6 H6 => ln_ <| nx <| sq_ <| rl_ <| wl_ <| p_ H6 rfl rfl fun a7 H7 => wl_ <| i_ H7 rfl (v := .int .i64 2) (dd_len rfl (H7.ev 12 rfl) Tryd.underlying75) fun a8 H8 => ?_
  clear HS HA0 a0 H1 a1 H2 a2 H3 a3 HS1 H4 a4 HS4 H5 a5 H6 a6
  refine wl_ <| i_ H8 rfl (v := .int .u8 2) (dd_conv (k := .u8) rfl (H8.ev 13 rfl) Tryd.underlying3 (by kernel_rfl) (by decide)) fun a9 H9 => wl_ <| i_ H9 rfl (xA 32 1 0 rfl (H9.ev 4 rfl) rfl) fun a10 H10 => wl_ <| t_ rfl (S := [⟨g2, 36, bs (zer 32)⟩, ⟨g4, 36, bs ((zer 32).set 0 (2#8))⟩]) (fun _ h => dd_put HS6 1 0 rfl rfl (H10.ev 15 rfl) (H10.ev 14 rfl) (by kernel_rfl) rfl rfl (by rw [((size_bs _).trans (length_zer 32))]; rfl) (set_bs _ _ (2#8)) h) fun W11 HS11 => ln_ <| nx <| sq_ <| sq_ <| rl_ <| wl_ <| p_ H10 rfl rfl fun a12 H12 => wl_ <| i_ H12 rfl (v := .int .i64 2) (dd_len rfl (H12.ev 16 rfl) Tryd.underlying75) fun a13 H13 => wl_ <| p_ H13 rfl rfl fun a14 H14 => ln_ <| nx <| wp_block <| wp_unr 3 <| unr_go <| sq_ <| rl_ <| wl_ <| i_ H14 rfl (dd_cmp rfl (H14.ev 18 rfl) (H14.ev 17 rfl) (lt_t (by decide))) fun a15 H15 => ln_ <| nx <| sq_ <| ct_ H15 rfl <| wp_skip <| nx <| sq_ <| wp_block <| sq_ <| rl_ <| wl_ <| p_ H15 rfl rfl fun a16 H16 => ?_
  clear H7 a7 H8 a8 H9 a9 HS6 H10 a10 H12 a12 H13 a13 H14 a14
  refine wl_ <| i_ H16 rfl (xS 2 (o + 0) rfl (H16.ev 16 rfl) (H16.ev 18 rfl)) fun a17 H17 => ?_
  clear H15 a15 H16 a16
  obtain ⟨p19, L19, B19, m19, c19, hg19, hr19, hm19, hp19⟩ := vols_getC hv (k := 0) (by decide)
  refine wl_ <| i_ H17 rfl (v := .agg #[.string (strB p19), .slice B19 m19 c19]) (dd_atN rfl (H17.ev 21 rfl) (hr19 _ HS11.below).1 Tryd.underlying81 rfl (by kernel_rfl)) fun a18 H18 => wl_ <| n_ H18 rfl (fun _ h => dd_new HS11 #[.string (⟨#[]⟩), .slice none 0 0] rfl (z := .agg #[.string (⟨#[]⟩), .slice none 0 0]) (by kernel_rfl) rfl h) fun g6 W20 HS20 a20 H20 => wl_ <| p_ H20 rfl rfl fun a21 H21 => wl_ <| t_ rfl (fun _ h => dd_setrow HS20 2 rfl rfl (H21.ev 6 rfl) (H21.ev 22 rfl) (by kernel_rfl) (rfl : #[.string (strB p19), .slice B19 m19 c19].size = 2) (rfl : #[.string (⟨#[]⟩), .slice none 0 0].size = 2) (one_l (ao_cons rfl (ao_cons rfl ao_nil))) h) fun W22 HS22 => ln_ <| nx <| sq_ <| rl_ <| wl_ <| i_ H21 rfl (v := .agg #[.string (strB p19), .slice B19 m19 c19]) (dd_load HS22 2 0 rfl rfl (H21.ev 6 rfl) (slab_whole _) Tryd.underlying81 rfl (by kernel_rfl)) fun a23 H23 => wl_ <| c_ H23 rfl HS22 (dcs Tryd.func57 rfl (args1 (H23.ev 23 rfl)) (tobytes_any _ _ _ p19 L19 W22 (hr19 _ HS22.below).2 (by have h9 := okT_parts ((goodT_parts hG).2.1 _ _ hg19); simp only at h9; omega)) (.agg (bs (volE (p19, L19))))) fun W24 HS24 a24 H24 => wl_ <| n_ H24 rfl (fun _ h => dd_new HS24 (bs (zer 9)) rfl (z := .agg (bs (zer 9))) (by kernel_rfl) rfl h) fun g7 W25 HS25 a25 H25 => wl_ <| t_ rfl (fun _ h => dd_setrow HS25 3 rfl rfl (H25.ev 7 rfl) (H25.ev 24 rfl) (by kernel_rfl) (((size_bs _).trans (length_volE _)) : (bs (volE (p19, L19))).size = 9) (((size_bs _).trans (length_zer 9)) : (bs (zer 9)).size = 9) (one_bs _) h) fun W26 HS26 => ?_
  clear H17 a17 HS11 H18 a18 H20 a20 HS20 H21 a21 H23 a23 HS22 HS24 H24 a24
  refine ln_ <| ?_
  clear HS25
  have H27 := H25.sel [2, 4, 16, 17, 18, 5, 7] rfl
  refine nx <| ?_
  clear H25
  refine wi_ HS26 [0, 2, 3] rfl [0, 2, 3, 1] rfl fun HSh28 hx28 => hp_ H27 0 hx28 rfl rfl rfl fun a29 H29 => ht_ H29 1 hx28 rfl rfl (v := .int .i64 0) (fun _ _ _ => dd_ari rfl (H29.ev 25 rfl) rfl rfl (by decide)) fun a30 H30 => ht_ H30 2 hx28 rfl rfl (v := .int .i64 1) (fun _ _ _ => dd_ari rfl rfl (H30.ev 26 rfl) rfl (by decide)) fun a31 H31 => ht_ H31 3 hx28 rfl rfl (v := .slice (some ⟨g4, 1, none⟩) 31 31) (fun _ _ _ => dd_slAl (l := 1) (n := 32) (sz := 1) (j := 1) rfl (H31.ev 4 rfl) (H31.ev 27 rfl) (by kernel_rfl) (by decide) rfl rfl) fun a32 H32 => ht_ H32 4 hx28 rfl rfl (v := .slice (some ⟨g7, 0, none⟩) 9 9) (fun _ _ _ => dd_slA (n := 9) (sz := 1) rfl (H32.ev 7 rfl) (by kernel_rfl)) fun a33 H33 => h1_ 5 rfl <| tv H33 rfl (S := [⟨g2, 36, bs (zer 32)⟩, ⟨g4, 36, bs (spl ((zer 32).set 0 (2#8)) 1 (volE (p19, L19)))⟩, ⟨g6, 81, #[.string (strB p19), .slice B19 m19 c19]⟩, ⟨g7, 110, bs (volE (p19, L19))⟩]) (v := .int .i64 9) (fun _ h => dd_copyR HSh28 1 rfl (len_set (length_zer 32)) rfl (H33.ev 28 rfl) (H33.ev 29 rfl) (slice_part (HSh28.row 3 rfl) 0 (bytes_slab (slab_whole _)) (length_volE _) (by decide)) (length_volE _) (by decide) (by decide) h) fun W34 HS34 a34 H34 => sx_ (sxi HS34 [0, 2, 3, 1] rfl) fun hx35 => ?_
  clear HS26 H27 a25 H29 a29 H30 a30 H31 a31 H32 a32 HSh28 H33 a33
  clear hx28
  refine wpAnyH_done (by kernel_rfl) ?_ _
  clear hx35
  refine bn <| nx <| rl_ <| wl_ <| i_ H34 rfl (v := .int .i64 1) (dd_ari rfl (H34.ev 18 rfl) rfl rfl (by decide)) fun a36 H36 => wl_ <| p_ H36 rfl rfl fun a37 H37 => ln_ <| nx <| unr_go <| sq_ <| rl_ <| wl_ <| i_ H37 rfl (dd_cmp rfl (H37.ev 18 rfl) (H37.ev 17 rfl) (lt_t (by decide))) fun a38 H38 => ln_ <| nx <| sq_ <| ct_ H38 rfl <| wp_skip <| nx <| sq_ <| wp_block <| sq_ <| rl_ <| wl_ <| p_ H38 rfl rfl fun a39 H39 => wl_ <| i_ H39 rfl (xS 2 (o + 2) rfl (H39.ev 16 rfl) (H39.ev 18 rfl)) fun a40 H40 => ?_
  clear H34 a34 H36 a36 H37 a37 H38 a38 H39 a39
  obtain ⟨p42, L42, B42, m42, c42, hg42, hr42, hm42, hp42⟩ := vols_getC hv (k := 1) (by decide)
  refine wl_ <| i_ H40 rfl (v := .agg #[.string (strB p42), .slice B42 m42 c42]) (dd_atN rfl (H40.ev 21 rfl) (hr42 _ HS34.below).1 Tryd.underlying81 rfl (by kernel_rfl)) fun a41 H41 => wl_ <| n_ H41 rfl (fun _ h => dd_new HS34 #[.string (⟨#[]⟩), .slice none 0 0] rfl (z := .agg #[.string (⟨#[]⟩), .slice none 0 0]) (by kernel_rfl) rfl h) fun g6_43 W43 HS43 a43 H43 => wl_ <| p_ H43 rfl rfl fun a44 H44 => wl_ <| t_ rfl (fun _ h => dd_setrow HS43 4 rfl rfl (H44.ev 6 rfl) (H44.ev 22 rfl) (by kernel_rfl) (rfl : #[.string (strB p42), .slice B42 m42 c42].size = 2) (rfl : #[.string (⟨#[]⟩), .slice none 0 0].size = 2) (one_l (ao_cons rfl (ao_cons rfl ao_nil))) h) fun W45 HS45 => ln_ <| nx <| sq_ <| rl_ <| wl_ <| i_ H44 rfl (v := .agg #[.string (strB p42), .slice B42 m42 c42]) (dd_load HS45 4 0 rfl rfl (H44.ev 6 rfl) (slab_whole _) Tryd.underlying81 rfl (by kernel_rfl)) fun a46 H46 => wl_ <| c_ H46 rfl HS45 (dcs Tryd.func57 rfl (args1 (H46.ev 23 rfl)) (tobytes_any _ _ _ p42 L42 W45 (hr42 _ HS45.below).2 (by have h9 := okT_parts ((goodT_parts hG).2.1 _ _ hg42); simp only at h9; omega)) (.agg (bs (volE (p42, L42))))) fun W47 HS47 a47 H47 => wl_ <| n_ H47 rfl (fun _ h => dd_new HS47 (bs (zer 9)) rfl (z := .agg (bs (zer 9))) (by kernel_rfl) rfl h) fun g7_48 W48 HS48 a48 H48 => wl_ <| t_ rfl (fun _ h => dd_setrow HS48 5 rfl rfl (H48.ev 7 rfl) (H48.ev 24 rfl) (by kernel_rfl) (((size_bs _).trans (length_volE _)) : (bs (volE (p42, L42))).size = 9) (((size_bs _).trans (length_zer 9)) : (bs (zer 9)).size = 9) (one_bs _) h) fun W49 HS49 => ?_
  clear H40 a40 HS34 H41 a41 H43 a43 HS43 H44 a44 H46 a46 HS45 HS47 H47 a47
  refine ln_ <| nx <| ?_
  clear HS48
  refine wi_ HS49 [0, 2, 3, 4, 5] rfl [0, 2, 3, 4, 5, 1] rfl fun HSh50 hx50 => hp_ H48 0 hx50 rfl rfl rfl fun a51 H51 => ht_ H51 1 hx50 rfl rfl (v := .int .i64 9) (fun _ _ _ => dd_ari rfl (H51.ev 25 rfl) rfl rfl (by decide)) fun a52 H52 => ht_ H52 2 hx50 rfl rfl (v := .int .i64 10) (fun _ _ _ => dd_ari rfl rfl (H52.ev 26 rfl) rfl (by decide)) fun a53 H53 => ht_ H53 3 hx50 rfl rfl (v := .slice (some ⟨g4, 10, none⟩) 22 22) (fun _ _ _ => dd_slAl (l := 10) (n := 32) (sz := 1) (j := 10) rfl (H53.ev 4 rfl) (H53.ev 27 rfl) (by kernel_rfl) (by decide) rfl rfl) fun a54 H54 => ht_ H54 4 hx50 rfl rfl (v := .slice (some ⟨g7_48, 0, none⟩) 9 9) (fun _ _ _ => dd_slA (n := 9) (sz := 1) rfl (H54.ev 7 rfl) (by kernel_rfl)) fun a55 H55 => h1_ 5 rfl <| tv H55 rfl (S := [⟨g2, 36, bs (zer 32)⟩, ⟨g4, 36, bs (spl (spl ((zer 32).set 0 (2#8)) 1 (volE (p19, L19))) 10 (volE (p42, L42)))⟩, ⟨g6, 81, #[.string (strB p19), .slice B19 m19 c19]⟩, ⟨g7, 110, bs (volE (p19, L19))⟩, ⟨g6_43, 81, #[.string (strB p42), .slice B42 m42 c42]⟩, ⟨g7_48, 110, bs (volE (p42, L42))⟩]) (v := .int .i64 9) (fun _ h => dd_copyR HSh50 1 rfl (len_spl (len_set (length_zer 32)) (length_volE _) (by decide)) rfl (H55.ev 28 rfl) (H55.ev 29 rfl) (slice_part (HSh50.row 5 rfl) 0 (bytes_slab (slab_whole _)) (length_volE _) (by decide)) (length_volE _) (by decide) (by decide) h) fun W56 HS56 a56 H56 => sx_ (sxi HS56 [0, 2, 3, 4, 5, 1] rfl) fun hx57 => ?_
  clear HS49 H48 a48 H51 a51 H52 a52 H53 a53 H54 a54 HSh50 H55 a55
  clear hx50
  refine wpAnyH_done (by kernel_rfl) ?_ _
  clear hx57
  refine bn <| nx <| rl_ <| wl_ <| i_ H56 rfl (v := .int .i64 2) (dd_ari rfl (H56.ev 18 rfl) rfl rfl (by decide)) fun a58 H58 => wl_ <| p_ H58 rfl rfl fun a59 H59 => ln_ <| ?_
  clear H56 a56 H58 a58
  have H60 := H59.sel [2, 4, 16, 17, 18] rfl
  refine nx <| unr_go <| sq_ <| rl_ <| wl_ <| i_ H60 rfl (dd_cmp rfl (H60.ev 18 rfl) (H60.ev 17 rfl) (lt_f (by decide))) fun a61 H61 => ln_ <| nx <| sq_ <| cf_ H61 rfl <| wp_exit <| tx <| tx <| bx <| nx <| sq_ <| rl_ <| wl_ <| i_ H61 rfl (v := .agg (bs (spl (spl ((zer 32).set 0 (2#8)) 1 (volE (p19, L19))) 10 (volE (p42, L42))))) (dd_load HS56 1 0 rfl rfl (H61.ev 4 rfl) (slab_whole _) Tryd.underlying36 rfl (by rw [show (bs (spl (spl ((zer 32).set 0 (2#8)) 1 (volE (p19, L19))) 10 (volE (p42, L42)))).size = 32 from ((size_bs _).trans (len_spl (len_spl (len_set (length_zer 32)) (length_volE _) (by decide)) (length_volE _) (by decide)))]; kernel_rfl)) fun a62 H62 => wl_ <| t_ rfl (fun _ h => dd_setrow HS56 0 rfl rfl (H62.ev 2 rfl) (H62.ev 32 rfl) (by kernel_rfl) (((size_bs _).trans (len_spl (len_spl (len_set (length_zer 32)) (length_volE _) (by decide)) (length_volE _) (by decide))) : (bs (spl (spl ((zer 32).set 0 (2#8)) 1 (volE (p19, L19))) 10 (volE (p42, L42)))).size = 32) (((size_bs _).trans (length_zer 32)) : (bs (zer 32)).size = 32) (one_bs _) h) fun W63 HS63 => wl_ <| p_ H62 rfl rfl fun a64 H64 => ln_ <| nx <| wp_ret <| ret_run H64.env0 (res_ct Tryd.results48 (H64.get 2 rfl) (HS63.row 0 rfl) Tryd.underlying36 rfl (by rw [show (bs (spl (spl ((zer 32).set 0 (2#8)) 1 (volE (p19, L19))) 10 (volE (p42, L42)))).size = 32 from ((size_bs _).trans (len_spl (len_spl (len_set (length_zer 32)) (length_volE _) (by decide)) (length_volE _) (by decide)))]; kernel_rfl) (H64.get 3 rfl)) <| ?_
  clear H59 H60 a59 H61 a61 HS56 H62 a62
  have hl : l = [(p19, L19), (p42, L42)] := tvs_2 hln hg19 hg42
  exact ⟨by unfold encT encE; rw [hG, if_pos rfl, if_pos rfl, hl, ← encB_2], HS63.below⟩
set_option maxHeartbeats 1600000 in
theorem enct3 (b o c : Nat) (l : List Tv) (w : World) (hv : VolsAt w (.slice (some ⟨b, o, none⟩) 3 c) (volL l)) (hml : ∀ x ∈ l, x.2.length ≤ 1000000) (hG : goodT l = true) :
    Calls Tryd.prog 48 #[.slice (some ⟨b, o, none⟩) 3 c] w fun e w' => e = .returned (.tuple #[.agg (bs (encT l)), .int .i64 (encE l)]) ∧ Below w.heap.size w w' := by
  have HS := St.nil w noF
  have hn : 3 ≤ 1000000 := by decide
  have hln : l.length = 3 := by rw [← len_volL]; exact vols_len hv
  refine enter_en Tryd.func48 rfl Tryd.ntmps48 (Nat.le_of_ble_eq_true rfl) fun a0 (HA0 : En 33 [(0, .slice (some ⟨b, o, none⟩) 3 c)] a0) => ?_
  refine sq_ <| rl_ <| wl_ <| n_ HA0 rfl (fun _ h => dd_new HS (bs (zer 32)) rfl (z := .agg (bs (zer 32))) (by kernel_rfl) rfl h) fun g2 W1 HS1 a1 H1 => wl_ <| p_ H1 rfl rfl fun a2 H2 => ln_ <| nx <| sq_ <| sq_ <| rl_ <| wl_ <| p_ H2 rfl rfl fun a3 H3 => wl_ <| c_ H3 rfl HS1 (v := .bool true) (dc_ Tryd.func56 rfl (args1 (H3.ev 8 rfl)) (goodt_any _ _ _ l W1 (hv.below HS1.below (Nat.le_refl _)) hn hml) (fun _ w9 h9 => ⟨_, h9.1, by rw [hG], h9.2⟩)) fun W4 HS4 a4 H4 => wl_ <| i_ H4 rfl (v := .bool false) (dd_nt rfl (H4.ev 9 rfl) rfl) fun a5 H5 => ln_ <| nx <| cf_ H5 rfl <| wp_skip <| nx <| sq_ <| rl_ <| wl_ <| n_ H5 rfl (fun _ h => dd_new HS4 (bs (zer 32)) rfl (z := .agg (bs (zer 32))) (by kernel_rfl) rfl h) fun g4 W6 HS6 a6 H6 => ln_ <| nx <| sq_ <| rl_ <| wl_ <| p_ H6 rfl rfl fun a7 H7 => wl_ <| i_ H7 rfl (v := .int .i64 3) (dd_len rfl (H7.ev 12 rfl) Tryd.underlying75) fun a8 H8 => ?_
  clear HS HA0 a0 H1 a1 H2 a2 H3 a3 HS1 H4 a4 HS4 H5 a5 H6 a6
  refine wl_ <| i_ H8 rfl (v := .int .u8 3) (dd_conv (k := .u8) rfl (H8.ev 13 rfl) Tryd.underlying3 (by kernel_rfl) (by decide)) fun a9 H9 => wl_ <| i_ H9 rfl (xA 32 1 0 rfl (H9.ev 4 rfl) rfl) fun a10 H10 => wl_ <| t_ rfl (S := [⟨g2, 36, bs (zer 32)⟩, ⟨g4, 36, bs ((zer 32).set 0 (3#8))⟩]) (fun _ h => dd_put HS6 1 0 rfl rfl (H10.ev 15 rfl) (H10.ev 14 rfl) (by kernel_rfl) rfl rfl (by rw [((size_bs _).trans (length_zer 32))]; rfl) (set_bs _ _ (3#8)) h) fun W11 HS11 => ln_ <| nx <| sq_ <| sq_ <| rl_ <| wl_ <| p_ H10 rfl rfl fun a12 H12 => wl_ <| i_ H12 rfl (v := .int .i64 3) (dd_len rfl (H12.ev 16 rfl) Tryd.underlying75) fun a13 H13 => wl_ <| p_ H13 rfl rfl fun a14 H14 => ln_ <| nx <| wp_block <| wp_unr 4 <| unr_go <| sq_ <| rl_ <| wl_ <| i_ H14 rfl (dd_cmp rfl (H14.ev 18 rfl) (H14.ev 17 rfl) (lt_t (by decide))) fun a15 H15 => ln_ <| nx <| sq_ <| ct_ H15 rfl <| wp_skip <| nx <| sq_ <| wp_block <| sq_ <| rl_ <| wl_ <| p_ H15 rfl rfl fun a16 H16 => ?_
  clear H7 a7 H8 a8 H9 a9 HS6 H10 a10 H12 a12 H13 a13 H14 a14
  refine wl_ <| i_ H16 rfl (xS 2 (o + 0) rfl (H16.ev 16 rfl) (H16.ev 18 rfl)) fun a17 H17 => ?_
  clear H15 a15 H16 a16
  obtain ⟨p19, L19, B19, m19, c19, hg19, hr19, hm19, hp19⟩ := vols_getC hv (k := 0) (by decide)
  refine wl_ <| i_ H17 rfl (v := .agg #[.string (strB p19), .slice B19 m19 c19]) (dd_atN rfl (H17.ev 21 rfl) (hr19 _ HS11.below).1 Tryd.underlying81 rfl (by kernel_rfl)) fun a18 H18 => wl_ <| n_ H18 rfl (fun _ h => dd_new HS11 #[.string (⟨#[]⟩), .slice none 0 0] rfl (z := .agg #[.string (⟨#[]⟩), .slice none 0 0]) (by kernel_rfl) rfl h) fun g6 W20 HS20 a20 H20 => wl_ <| p_ H20 rfl rfl fun a21 H21 => wl_ <| t_ rfl (fun _ h => dd_setrow HS20 2 rfl rfl (H21.ev 6 rfl) (H21.ev 22 rfl) (by kernel_rfl) (rfl : #[.string (strB p19), .slice B19 m19 c19].size = 2) (rfl : #[.string (⟨#[]⟩), .slice none 0 0].size = 2) (one_l (ao_cons rfl (ao_cons rfl ao_nil))) h) fun W22 HS22 => ln_ <| nx <| sq_ <| rl_ <| wl_ <| i_ H21 rfl (v := .agg #[.string (strB p19), .slice B19 m19 c19]) (dd_load HS22 2 0 rfl rfl (H21.ev 6 rfl) (slab_whole _) Tryd.underlying81 rfl (by kernel_rfl)) fun a23 H23 => wl_ <| c_ H23 rfl HS22 (dcs Tryd.func57 rfl (args1 (H23.ev 23 rfl)) (tobytes_any _ _ _ p19 L19 W22 (hr19 _ HS22.below).2 (by have h9 := okT_parts ((goodT_parts hG).2.1 _ _ hg19); simp only at h9; omega)) (.agg (bs (volE (p19, L19))))) fun W24 HS24 a24 H24 => wl_ <| n_ H24 rfl (fun _ h => dd_new HS24 (bs (zer 9)) rfl (z := .agg (bs (zer 9))) (by kernel_rfl) rfl h) fun g7 W25 HS25 a25 H25 => wl_ <| t_ rfl (fun _ h => dd_setrow HS25 3 rfl rfl (H25.ev 7 rfl) (H25.ev 24 rfl) (by kernel_rfl) (((size_bs _).trans (length_volE _)) : (bs (volE (p19, L19))).size = 9) (((size_bs _).trans (length_zer 9)) : (bs (zer 9)).size = 9) (one_bs _) h) fun W26 HS26 => ?_
  clear H17 a17 HS11 H18 a18 H20 a20 HS20 H21 a21 H23 a23 HS22 HS24 H24 a24
  refine ln_ <| ?_
  clear HS25
  have H27 := H25.sel [2, 4, 16, 17, 18, 5, 7] rfl
  refine nx <| ?_
  clear H25
  refine wi_ HS26 [0, 2, 3] rfl [0, 2, 3, 1] rfl fun HSh28 hx28 => hp_ H27 0 hx28 rfl rfl rfl fun a29 H29 => ht_ H29 1 hx28 rfl rfl (v := .int .i64 0) (fun _ _ _ => dd_ari rfl (H29.ev 25 rfl) rfl rfl (by decide)) fun a30 H30 => ht_ H30 2 hx28 rfl rfl (v := .int .i64 1) (fun _ _ _ => dd_ari rfl rfl (H30.ev 26 rfl) rfl (by decide)) fun a31 H31 => ht_ H31 3 hx28 rfl rfl (v := .slice (some ⟨g4, 1, none⟩) 31 31) (fun _ _ _ => dd_slAl (l := 1) (n := 32) (sz := 1) (j := 1) rfl (H31.ev 4 rfl) (H31.ev 27 rfl) (by kernel_rfl) (by decide) rfl rfl) fun a32 H32 => ht_ H32 4 hx28 rfl rfl (v := .slice (some ⟨g7, 0, none⟩) 9 9) (fun _ _ _ => dd_slA (n := 9) (sz := 1) rfl (H32.ev 7 rfl) (by kernel_rfl)) fun a33 H33 => h1_ 5 rfl <| tv H33 rfl (S := [⟨g2, 36, bs (zer 32)⟩, ⟨g4, 36, bs (spl ((zer 32).set 0 (3#8)) 1 (volE (p19, L19)))⟩, ⟨g6, 81, #[.string (strB p19), .slice B19 m19 c19]⟩, ⟨g7, 110, bs (volE (p19, L19))⟩]) (v := .int .i64 9) (fun _ h => dd_copyR HSh28 1 rfl (len_set (length_zer 32)) rfl (H33.ev 28 rfl) (H33.ev 29 rfl) (slice_part (HSh28.row 3 rfl) 0 (bytes_slab (slab_whole _)) (length_volE _) (by decide)) (length_volE _) (by decide) (by decide) h) fun W34 HS34 a34 H34 => sx_ (sxi HS34 [0, 2, 3, 1] rfl) fun hx35 => ?_
  clear HS26 H27 a25 H29 a29 H30 a30 H31 a31 H32 a32 HSh28 H33 a33
  clear hx28
  refine wpAnyH_done (by kernel_rfl) ?_ _
  clear hx35
  refine bn <| nx <| rl_ <| wl_ <| i_ H34 rfl (v := .int .i64 1) (dd_ari rfl (H34.ev 18 rfl) rfl rfl (by decide)) fun a36 H36 => wl_ <| p_ H36 rfl rfl fun a37 H37 => ln_ <| nx <| unr_go <| sq_ <| rl_ <| wl_ <| i_ H37 rfl (dd_cmp rfl (H37.ev 18 rfl) (H37.ev 17 rfl) (lt_t (by decide))) fun a38 H38 => ln_ <| nx <| sq_ <| ct_ H38 rfl <| wp_skip <| nx <| sq_ <| wp_block <| sq_ <| rl_ <| wl_ <| p_ H38 rfl rfl fun a39 H39 => wl_ <| i_ H39 rfl (xS 2 (o + 2) rfl (H39.ev 16 rfl) (H39.ev 18 rfl)) fun a40 H40 => ?_
  clear H34 a34 H36 a36 H37 a37 H38 a38 H39 a39
  obtain ⟨p42, L42, B42, m42, c42, hg42, hr42, hm42, hp42⟩ := vols_getC hv (k := 1) (by decide)
  refine wl_ <| i_ H40 rfl (v := .agg #[.string (strB p42), .slice B42 m42 c42]) (dd_atN rfl (H40.ev 21 rfl) (hr42 _ HS34.below).1 Tryd.underlying81 rfl (by kernel_rfl)) fun a41 H41 => wl_ <| n_ H41 rfl (fun _ h => dd_new HS34 #[.string (⟨#[]⟩), .slice none 0 0] rfl (z := .agg #[.string (⟨#[]⟩), .slice none 0 0]) (by kernel_rfl) rfl h) fun g6_43 W43 HS43 a43 H43 => wl_ <| p_ H43 rfl rfl fun a44 H44 => wl_ <| t_ rfl (fun _ h => dd_setrow HS43 4 rfl rfl (H44.ev 6 rfl) (H44.ev 22 rfl) (by kernel_rfl) (rfl : #[.string (strB p42), .slice B42 m42 c42].size = 2) (rfl : #[.string (⟨#[]⟩), .slice none 0 0].size = 2) (one_l (ao_cons rfl (ao_cons rfl ao_nil))) h) fun W45 HS45 => ln_ <| nx <| sq_ <| rl_ <| wl_ <| i_ H44 rfl (v := .agg #[.string (strB p42), .slice B42 m42 c42]) (dd_load HS45 4 0 rfl rfl (H44.ev 6 rfl) (slab_whole _) Tryd.underlying81 rfl (by kernel_rfl)) fun a46 H46 => wl_ <| c_ H46 rfl HS45 (dcs Tryd.func57 rfl (args1 (H46.ev 23 rfl)) (tobytes_any _ _ _ p42 L42 W45 (hr42 _ HS45.below).2 (by have h9 := okT_parts ((goodT_parts hG).2.1 _ _ hg42); simp only at h9; omega)) (.agg (bs (volE (p42, L42))))) fun W47 HS47 a47 H47 => wl_ <| n_ H47 rfl (fun _ h => dd_new HS47 (bs (zer 9)) rfl (z := .agg (bs (zer 9))) (by kernel_rfl) rfl h) fun g7_48 W48 HS48 a48 H48 => wl_ <| t_ rfl (fun _ h => dd_setrow HS48 5 rfl rfl (H48.ev 7 rfl) (H48.ev 24 rfl) (by kernel_rfl) (((size_bs _).trans (length_volE _)) : (bs (volE (p42, L42))).size = 9) (((size_bs _).trans (length_zer 9)) : (bs (zer 9)).size = 9) (one_bs _) h) fun W49 HS49 => ?_
  clear H40 a40 HS34 H41 a41 H43 a43 HS43 H44 a44 H46 a46 HS45 HS47 H47 a47
  refine ln_ <| nx <| ?_
  clear HS48
  refine wi_ HS49 [0, 2, 3, 4, 5] rfl [0, 2, 3, 4, 5, 1] rfl fun HSh50 hx50 => hp_ H48 0 hx50 rfl rfl rfl fun a51 H51 => ht_ H51 1 hx50 rfl rfl (v := .int .i64 9) (fun _ _ _ => dd_ari rfl (H51.ev 25 rfl) rfl rfl (by decide)) fun a52 H52 => ht_ H52 2 hx50 rfl rfl (v := .int .i64 10) (fun _ _ _ => dd_ari rfl rfl (H52.ev 26 rfl) rfl (by decide)) fun a53 H53 => ht_ H53 3 hx50 rfl rfl (v := .slice (some ⟨g4, 10, none⟩) 22 22) (fun _ _ _ => dd_slAl (l := 10) (n := 32) (sz := 1) (j := 10) rfl (H53.ev 4 rfl) (H53.ev 27 rfl) (by kernel_rfl) (by decide) rfl rfl) fun a54 H54 => ht_ H54 4 hx50 rfl rfl (v := .slice (some ⟨g7_48, 0, none⟩) 9 9) (fun _ _ _ => dd_slA (n := 9) (sz := 1) rfl (H54.ev 7 rfl) (by kernel_rfl)) fun a55 H55 => h1_ 5 rfl <| tv H55 rfl (S := [⟨g2, 36, bs (zer 32)⟩, ⟨g4, 36, bs (spl (spl ((zer 32).set 0 (3#8)) 1 (volE (p19, L19))) 10 (volE (p42, L42)))⟩, ⟨g6, 81, #[.string (strB p19), .slice B19 m19 c19]⟩, ⟨g7, 110, bs (volE (p19, L19))⟩, ⟨g6_43, 81, #[.string (strB p42), .slice B42 m42 c42]⟩, ⟨g7_48, 110, bs (volE (p42, L42))⟩]) (v := .int .i64 9) (fun _ h => dd_copyR HSh50 1 rfl (len_spl (len_set (length_zer 32)) (length_volE _) (by decide)) rfl (H55.ev 28 rfl) (H55.ev 29 rfl) (slice_part (HSh50.row 5 rfl) 0 (bytes_slab (slab_whole _)) (length_volE _) (by decide)) (length_volE _) (by decide) (by decide) h) fun W56 HS56 a56 H56 => sx_ (sxi HS56 [0, 2, 3, 4, 5, 1] rfl) fun hx57 => ?_
  clear HS49 H48 a48 H51 a51 H52 a52 H53 a53 H54 a54 HSh50 H55 a55
  clear hx50
  refine wpAnyH_done (by kernel_rfl) ?_ _
  clear hx57
  refine bn <| nx <| rl_ <| wl_ <| i_ H56 rfl (v := .int .i64 2) (dd_ari rfl (H56.ev 18 rfl) rfl rfl (by decide)) fun a58 H58 => wl_ <| p_ H58 rfl rfl fun a59 H59 => ln_ <| ?_
  clear H56 a56 H58 a58
  have H60 := H59.sel [2, 4, 16, 17, 18] rfl
  refine nx <| unr_go <| sq_ <| rl_ <| wl_ <| i_ H60 rfl (dd_cmp rfl (H60.ev 18 rfl) (H60.ev 17 rfl) (lt_t (by decide))) fun a61 H61 => ln_ <| nx <| sq_ <| ct_ H61 rfl <| wp_skip <| nx <| sq_ <| wp_block <| sq_ <| rl_ <| wl_ <| p_ H61 rfl rfl fun a62 H62 => wl_ <| i_ H62 rfl (xS 2 (o + 4) rfl (H62.ev 16 rfl) (H62.ev 18 rfl)) fun a63 H63 => ?_
  clear H59 H60 a59 H61 a61 H62 a62
  obtain ⟨p65, L65, B65, m65, c65, hg65, hr65, hm65, hp65⟩ := vols_getC hv (k := 2) (by decide)
  refine wl_ <| i_ H63 rfl (v := .agg #[.string (strB p65), .slice B65 m65 c65]) (dd_atN rfl (H63.ev 21 rfl) (hr65 _ HS56.below).1 Tryd.underlying81 rfl (by kernel_rfl)) fun a64 H64 => wl_ <| n_ H64 rfl (fun _ h => dd_new HS56 #[.string (⟨#[]⟩), .slice none 0 0] rfl (z := .agg #[.string (⟨#[]⟩), .slice none 0 0]) (by kernel_rfl) rfl h) fun g6_66 W66 HS66 a66 H66 => wl_ <| p_ H66 rfl rfl fun a67 H67 => wl_ <| t_ rfl (fun _ h => dd_setrow HS66 6 rfl rfl (H67.ev 6 rfl) (H67.ev 22 rfl) (by kernel_rfl) (rfl : #[.string (strB p65), .slice B65 m65 c65].size = 2) (rfl : #[.string (⟨#[]⟩), .slice none 0 0].size = 2) (one_l (ao_cons rfl (ao_cons rfl ao_nil))) h) fun W68 HS68 => ln_ <| nx <| sq_ <| rl_ <| wl_ <| i_ H67 rfl (v := .agg #[.string (strB p65), .slice B65 m65 c65]) (dd_load HS68 6 0 rfl rfl (H67.ev 6 rfl) (slab_whole _) Tryd.underlying81 rfl (by kernel_rfl)) fun a69 H69 => wl_ <| c_ H69 rfl HS68 (dcs Tryd.func57 rfl (args1 (H69.ev 23 rfl)) (tobytes_any _ _ _ p65 L65 W68 (hr65 _ HS68.below).2 (by have h9 := okT_parts ((goodT_parts hG).2.1 _ _ hg65); simp only at h9; omega)) (.agg (bs (volE (p65, L65))))) fun W70 HS70 a70 H70 => wl_ <| n_ H70 rfl (fun _ h => dd_new HS70 (bs (zer 9)) rfl (z := .agg (bs (zer 9))) (by kernel_rfl) rfl h) fun g7_71 W71 HS71 a71 H71 => wl_ <| t_ rfl (fun _ h => dd_setrow HS71 7 rfl rfl (H71.ev 7 rfl) (H71.ev 24 rfl) (by kernel_rfl) (((size_bs _).trans (length_volE _)) : (bs (volE (p65, L65))).size = 9) (((size_bs _).trans (length_zer 9)) : (bs (zer 9)).size = 9) (one_bs _) h) fun W72 HS72 => ?_
  clear H63 a63 HS56 H64 a64 H66 a66 HS66 H67 a67 H69 a69 HS68 HS70 H70 a70
  refine ln_ <| nx <| ?_
  clear HS71
  refine wi_ HS72 [0, 2, 3, 4, 5, 6, 7] rfl [0, 2, 3, 4, 5, 6, 7, 1] rfl fun HSh73 hx73 => hp_ H71 0 hx73 rfl rfl rfl fun a74 H74 => ht_ H74 1 hx73 rfl rfl (v := .int .i64 18) (fun _ _ _ => dd_ari rfl (H74.ev 25 rfl) rfl rfl (by decide)) fun a75 H75 => ht_ H75 2 hx73 rfl rfl (v := .int .i64 19) (fun _ _ _ => dd_ari rfl rfl (H75.ev 26 rfl) rfl (by decide)) fun a76 H76 => ht_ H76 3 hx73 rfl rfl (v := .slice (some ⟨g4, 19, none⟩) 13 13) (fun _ _ _ => dd_slAl (l := 19) (n := 32) (sz := 1) (j := 19) rfl (H76.ev 4 rfl) (H76.ev 27 rfl) (by kernel_rfl) (by decide) rfl rfl) fun a77 H77 => ht_ H77 4 hx73 rfl rfl (v := .slice (some ⟨g7_71, 0, none⟩) 9 9) (fun _ _ _ => dd_slA (n := 9) (sz := 1) rfl (H77.ev 7 rfl) (by kernel_rfl)) fun a78 H78 => h1_ 5 rfl <| tv H78 rfl (S := [⟨g2, 36, bs (zer 32)⟩, ⟨g4, 36, bs (spl (spl (spl ((zer 32).set 0 (3#8)) 1 (volE (p19, L19))) 10 (volE (p42, L42))) 19 (volE (p65, L65)))⟩, ⟨g6, 81, #[.string (strB p19), .slice B19 m19 c19]⟩, ⟨g7, 110, bs (volE (p19, L19))⟩, ⟨g6_43, 81, #[.string (strB p42), .slice B42 m42 c42]⟩, ⟨g7_48, 110, bs (volE (p42, L42))⟩, ⟨g6_66, 81, #[.string (strB p65), .slice B65 m65 c65]⟩, ⟨g7_71, 110, bs (volE (p65, L65))⟩]) (v := .int .i64 9) (fun _ h => dd_copyR HSh73 1 rfl (len_spl (len_spl (len_set (length_zer 32)) (length_volE _) (by decide)) (length_volE _) (by decide)) rfl (H78.ev 28 rfl) (H78.ev 29 rfl) (slice_part (HSh73.row 7 rfl) 0 (bytes_slab (slab_whole _)) (length_volE _) (by decide)) (length_volE _) (by decide) (by decide) h) fun W79 HS79 a79 H79 => sx_ (sxi HS79 [0, 2, 3, 4, 5, 6, 7, 1] rfl) fun hx80 => ?_
  clear HS72 H71 a71 H74 a74 H75 a75 H76 a76 H77 a77 HSh73 H78 a78
  clear hx73
  refine wpAnyH_done (by kernel_rfl) ?_ _
  clear hx80
  refine bn <| nx <| rl_ <| wl_ <| i_ H79 rfl (v := .int .i64 3) (dd_ari rfl (H79.ev 18 rfl) rfl rfl (by decide)) fun a81 H81 => wl_ <| p_ H81 rfl rfl fun a82 H82 => ln_ <| ?_
  clear H79 a79 H81 a81
  have H83 := H82.sel [2, 4, 16, 17, 18] rfl
  refine nx <| unr_go <| sq_ <| rl_ <| wl_ <| i_ H83 rfl (dd_cmp rfl (H83.ev 18 rfl) (H83.ev 17 rfl) (lt_f (by decide))) fun a84 H84 => ln_ <| nx <| sq_ <| cf_ H84 rfl <| wp_exit <| tx <| tx <| bx <| nx <| sq_ <| rl_ <| wl_ <| i_ H84 rfl (v := .agg (bs (spl (spl (spl ((zer 32).set 0 (3#8)) 1 (volE (p19, L19))) 10 (volE (p42, L42))) 19 (volE (p65, L65))))) (dd_load HS79 1 0 rfl rfl (H84.ev 4 rfl) (slab_whole _) Tryd.underlying36 rfl (by rw [show (bs (spl (spl (spl ((zer 32).set 0 (3#8)) 1 (volE (p19, L19))) 10 (volE (p42, L42))) 19 (volE (p65, L65)))).size = 32 from ((size_bs _).trans (len_spl (len_spl (len_spl (len_set (length_zer 32)) (length_volE _) (by decide)) (length_volE _) (by decide)) (length_volE _) (by decide)))]; kernel_rfl)) fun a85 H85 => wl_ <| t_ rfl (fun _ h => dd_setrow HS79 0 rfl rfl (H85.ev 2 rfl) (H85.ev 32 rfl) (by kernel_rfl) (((size_bs _).trans (len_spl (len_spl (len_spl (len_set (length_zer 32)) (length_volE _) (by decide)) (length_volE _) (by decide)) (length_volE _) (by decide))) : (bs (spl (spl (spl ((zer 32).set 0 (3#8)) 1 (volE (p19, L19))) 10 (volE (p42, L42))) 19 (volE (p65, L65)))).size = 32) (((size_bs _).trans (length_zer 32)) : (bs (zer 32)).size = 32) (one_bs _) h) fun W86 HS86 => wl_ <| p_ H85 rfl rfl fun a87 H87 => ln_ <| nx <| wp_ret <| ret_run H87.env0 (res_ct Tryd.results48 (H87.get 2 rfl) (HS86.row 0 rfl) Tryd.underlying36 rfl (by rw [show (bs (spl (spl (spl ((zer 32).set 0 (3#8)) 1 (volE (p19, L19))) 10 (volE (p42, L42))) 19 (volE (p65, L65)))).size = 32 from ((size_bs _).trans (len_spl (len_spl (len_spl (len_set (length_zer 32)) (length_volE _) (by decide)) (length_volE _) (by decide)) (length_volE _) (by decide)))]; kernel_rfl) (H87.get 3 rfl)) <| ?_
  clear H82 H83 a82 H84 a84 HS79 H85 a85
  have hl : l = [(p19, L19), (p42, L42), (p65, L65)] := tvs_3 hln hg19 hg42 hg65
  exact ⟨by unfold encT encE; rw [hG, if_pos rfl, if_pos rfl, hl, ← encB_3], HS86.below⟩
theorem enct_any (A : Option Addr) (n c : Nat) (l : List Tv) (w : World) (hv : VolsAt w (.slice A n c) (volL l)) (hn : n ≤ 1000000) (hml : ∀ x ∈ l, x.2.length ≤ 1000000) :
    Calls Tryd.prog 48 #[.slice A n c] w fun e w' => e = .returned (.tuple #[.agg (bs (encT l)), .int .i64 (encE l)]) ∧ Below w.heap.size w w' := by
  cases hG : goodT l with
  | false => exact enct_bad A n c l w hv hn hml hG
  | true =>
    have hln : l.length = n := by rw [← len_volL]; exact vols_len hv
    have h3 := (goodT_parts hG).1
    rcases (by omega : n = 0 ∨ n = 1 ∨ n = 2 ∨ n = 3) with rfl | rfl | rfl | rfl
    · exact enct0 c A l w hv hml hG
    · obtain ⟨b, o, rfl⟩ := vols_some hv (by decide); exact enct1 b o c l w hv hml hG
    · obtain ⟨b, o, rfl⟩ := vols_some hv (by decide); exact enct2 b o c l w hv hml hG
    · obtain ⟨b, o, rfl⟩ := vols_some hv (by decide); exact enct3 b o c l w hv hml hG
end Go.Proofs.YtnmaplgodimohaaDoor

/- The volumes of a block: the program's. -/
set_option maxRecDepth 4000
namespace Go.Proofs.YtnmaplgodimohaaDoor
open Go Go.RowKit
theorem get_nilP {α : Type} {P : Nat → α → Prop} : ∀ (k : Nat) (x : α), ([] : List α)[k]? = some x → P k x := fun k x h => by simp at h
theorem get_consP {α : Type} {P : Nat → α → Prop} {a : α} {l : List α} (h0 : P 0 a) (t : ∀ (k : Nat) (x : α), l[k]? = some x → P (k + 1) x) : ∀ (k : Nat) (x : α), (a :: l)[k]? = some x → P k x := fun k x h => by
  cases k with
  | zero => have h : a = x := by simpa using h
            subst h; exact h0
  | succ k => exact t k x (by simpa using h)
theorem own_rowI {w : World} {g base : Nat} {L : List Int} (h : Row w g 3 (intsV L).toArray) (hb : base ≤ g) (hm : L.length ≤ maxLen) : w.ownsRow base 3 1 (.slice (some ⟨g, 0, none⟩) L.length L.length) L.length (intsV L) :=
  ⟨by rw [len_intsV, Nat.mul_one], .inr ⟨g, L.length, _, rfl, hb, h, Nat.le_refl _, hm, by simp [intsV], by show (intsV L).take (L.length * 1) = intsV L; exact List.take_of_length_le (by rw [len_intsV]; omega)⟩⟩
theorem ints_rowI {w : World} {g : Nat} {L : List Int} (h : Row w g 3 (intsV L).toArray) (hm : L.length ≤ maxLen) (hb : ∀ x ∈ L, -9223372036854775808 ≤ x ∧ x < 9223372036854775808) : IntsAt w (.slice (some ⟨g, 0, none⟩) L.length L.length) L :=
  ints_own (own_rowI h (Nat.zero_le g) hm) hb
theorem volAt_of {w : World} {A : Option Addr} {c : Nat} {p : List (BitVec 8)} {L : List Int} (hi : IntsAt w (.slice A L.length c) L) (hp : p.length ≤ maxLen) : VolAt w [.string (strB p), .slice A L.length c] (strB p, L) := ⟨A, c, rfl, hi, by rw [strB_size]; exact hp⟩
theorem cellsV_nil (base : Nat) (W : World) : CellsV base W [] [] := ⟨rfl, (fun c h => by cases h), (fun j x h => by simp at h)⟩
theorem cellsV_cons {base : Nat} {W : World} {vs : List (List Value)} {l : List Vl} {A : Option Addr} {c : Nat} {p : List (BitVec 8)} {L : List Int} (hi : InV base W A c L) (hp : p.length ≤ maxLen) (t : CellsV base W vs l) : CellsV base W ([.string (strB p), .slice A L.length c] :: vs) ((strB p, L) :: l) :=
  ⟨by simp [t.1], (fun d hd => by
    cases hd with
    | head => rfl
    | tail _ hd => exact t.2.1 d hd), fun j x hx => by
    cases j with
    | zero => have hx : (strB p, L) = x := by simpa using hx
              subst hx; exact ⟨A, c, rfl, hi, by rw [strB_size]; exact hp⟩
    | succ j => simpa using t.2.2 j x (by simpa using hx)⟩
/- the volumes of a block -/
def decQ (q : List (BitVec 8)) : List Tv := (List.range (q.getD 0 0#8).toNat).map fun i => volQ ((q.drop (1 + 9 * i)).take 9)
def okD (q : List (BitVec 8)) : Bool := decide ((q.getD 0 0#8).toNat ≤ 3) && (goodT (decQ q) && decide (encT (decQ q) = q))
def decLT (q : List (BitVec 8)) : List Tv := if okD q then decQ q else []
def decE (q : List (BitVec 8)) : Int := if okD q then 0 else 11
theorem okD_no {q : List (BitVec 8)} (h : ¬ ((q.getD 0 0#8).toNat ≤ 3 ∧ goodT (decQ q) = true ∧ encT (decQ q) = q)) : okD q = false := by
  cases hk : okD q with
  | false => rfl
  | true =>
    unfold okD at hk
    simp only [Bool.and_eq_true, decide_eq_true_eq] at hk
    exact (h hk).elim
theorem okD_yes {q : List (BitVec 8)} (h1 : (q.getD 0 0#8).toNat ≤ 3) (h2 : goodT (decQ q) = true) (h3 : encT (decQ q) = q) : okD q = true := by
  unfold okD
  simp only [Bool.and_eq_true, decide_eq_true_eq]
  exact ⟨h1, h2, h3⟩
theorem dec_bad {q : List (BitVec 8)} (h : okD q = false) : decLT q = [] ∧ decE q = 11 := by unfold decLT decE; rw [h]; exact ⟨rfl, rfl⟩
theorem dec_good {q : List (BitVec 8)} (h : okD q = true) : decLT q = decQ q ∧ decE q = 0 := by unfold decLT decE; rw [h]; exact ⟨rfl, rfl⟩
theorem encE_z {l : List Tv} : encE l = 0 ↔ goodT l = true := by
  unfold encE
  cases goodT l <;> simp
theorem small_vq {l : List (List (BitVec 8))} : ∀ x ∈ l.map volQ, x.2.length ≤ 1000000 := fun x hx => by
  obtain ⟨y, _, rfl⟩ := List.mem_map.1 hx
  exact Nat.le_trans (fromL_len y) (by decide)
set_option maxRecDepth 10000 in
set_option maxHeartbeats 1600000 in
theorem dect0 (q : List (BitVec 8)) (w : World) (hq : q.length = 32) (h0 : q.getD 0 0#8 = 0#8) :
    Calls Tryd.prog 44 #[.agg (bs q)] w fun e w' => ∃ v, e = .returned (.tuple #[v, .int .i64 (decE q)]) ∧ OV w.heap.size w' v (volL (decLT q)) ∧ Below w.heap.size w w' := by
  have HS := St.nil w noF
  have hQ : decQ q = [] := by unfold decQ; rw [h0]; rfl
  refine enter_en Tryd.func44 rfl Tryd.ntmps44 (Nat.le_of_ble_eq_true rfl) fun a0 (HA0 : En 43 [(0, .agg (bs q))] a0) => ?_
  refine sq_ <| rl_ <| wl_ <| n_ HA0 rfl (fun _ h => dd_box HS rfl (HA0.ev 0 rfl) (cs := (bs q)) rfl h) fun g1 W1 HS1 a1 H1 => q_ H1 2 rfl fun a2 H2 => ln_ <| nx <| sq_ <| sq_ <| rl_ <| wl_ <| i_ H2 rfl (xA 32 1 0 rfl (H2.ev 1 rfl) rfl) fun a3 H3 => wl_ <| i_ H3 rfl (v := .int .u8 0) (dd_get HS1 0 0 rfl rfl (H3.ev 8 rfl) ((bs_get hq 0 (by decide)).trans (by rw [h0]; rfl)) Tryd.underlying5 rfl) fun a4 H4 => wl_ <| i_ H4 rfl (dd_cmp rfl (H4.ev 9 rfl) rfl (gt_f (by decide))) fun a5 H5 => ln_ <| nx <| cf_ H5 rfl <| wp_skip <| nx <| sq_ <| rl_ <| wl_ <| i_ H5 rfl (xA 32 1 0 rfl (H5.ev 1 rfl) rfl) fun a6 H6 => wl_ <| i_ H6 rfl (v := .int .u8 0) (dd_get HS1 0 0 rfl rfl (H6.ev 11 rfl) ((bs_get hq 0 (by decide)).trans (by rw [h0]; rfl)) Tryd.underlying5 rfl) fun a7 H7 => wl_ <| n_ H7 rfl (A := fun g13 => .slice (some ⟨g13, 0, none⟩) 0 0) (fun _ h => dd_mk HS1 rfl (H7.ev 12 rfl) (H7.ev 12 rfl) (z := .agg #[.string (⟨#[]⟩), .slice none 0 0]) (sz := 2) (bytes := 40) (cs := #[]) Tryd.underlying75 (by kernel_rfl) (by decide) (by decide) (by decide) (by kernel_rfl) h) fun g13 W8 HS8 a8 H8 => ?_
  clear HS HA0 a0 H1 a1 H2 a2 H3 a3 H4 a4 H5 a5 H6 a6
  refine wl_ <| p_ H8 rfl rfl fun a9 H9 => ln_ <| nx <| sq_ <| sq_ <| rl_ <| wl_ <| p_ H9 rfl rfl fun a10 H10 => wl_ <| i_ H10 rfl (v := .int .i64 0) (dd_len rfl (H10.ev 14 rfl) Tryd.underlying75) fun a11 H11 => wl_ <| p_ H11 rfl rfl fun a12 H12 => ln_ <| nx <| wp_block <| wp_unr 1 <| unr_go <| sq_ <| rl_ <| wl_ <| i_ H12 rfl (dd_cmp rfl (H12.ev 16 rfl) (H12.ev 15 rfl) (lt_f (by decide))) fun a13 H13 => ln_ <| nx <| sq_ <| cf_ H13 rfl <| wp_exit <| tx <| tx <| bx <| nx <| sq_ <| sq_ <| rl_ <| wl_ <| p_ H13 rfl rfl fun a14 H14 => wl_ <| c_ H14 rfl HS8 (dcs Tryd.func48 rfl (args1 (H14.ev 31 rfl)) (enct_any _ _ _ [] W8 (vols_row (l := volL []) (HS8.row 1 rfl) (Nat.le_refl _) (by show 0 ≤ maxLen; decide) (get_nilP)) (by decide) (small_vq (l := []))) (.tuple #[.agg (bs (encT [])), .int .i64 (encE [])])) fun W15 HS15 a15 H15 => wl_ <| p_ H15 rfl rfl fun a16 H16 => ?_
  clear HS1 H7 a7 H8 a8 H9 a9 H10 a10 H11 a11 H12 a12 H13 a13 H14 a14 HS8
  refine wl_ <| i_ H16 rfl (dd_ext rfl (H16.ev 30 rfl) rfl) fun a17 H17 => wl_ <| i_ H17 rfl (dd_ext rfl (H17.ev 30 rfl) rfl) fun a18 H18 => wl_ <| n_ H18 rfl (fun _ h => dd_new HS15 (bs (zer 32)) rfl (z := .agg (bs (zer 32))) (by kernel_rfl) rfl h) fun g6 W19 HS19 a19 H19 => wl_ <| t_ rfl (fun _ h => dd_setrow HS19 2 rfl rfl (H19.ev 6 rfl) (H19.ev 33 rfl) (by kernel_rfl) (((size_bs _).trans (length_encT _)) : (bs (encT [])).size = 32) (((size_bs _).trans (length_zer 32)) : (bs (zer 32)).size = 32) (one_bs _) h) fun W20 HS20 => wl_ <| p_ H19 rfl rfl fun a21 H21 => ln_ <| ?_
  clear H15 a15 H16 a16 H17 a17 HS15 H18 a18 HS19 H19 a19
  have H22 := H21.sel [1, 4, 6, 7] rfl
  refine nx <| sq_ <| rl_ <| wl_ <| p_ H22 rfl rfl fun a23 H23 => ?_
  clear H21 H22 a21
  by_cases hc25 : (encE [] : Int) = 0
  ·
   refine wl_ <| i_ H23 rfl (dd_cmp rfl (H23.ev 35 rfl) rfl (ne_f hc25)) fun a26 H26 => wl_ <| p_ H26 rfl rfl fun a27 H27 => wl_ <| ig H27 (wg_ H27 rfl rfl rfl rfl) rfl (v := .agg (bs (encT []))) (dd_load HS20 2 0 rfl rfl (H27.ev 6 rfl) (slab_whole _) Tryd.underlying36 rfl (by rw [show (bs (encT [])).size = 32 from ((size_bs _).trans (length_encT _))]; kernel_rfl)) fun a28 H28 => wl_ <| ig H28 (wg_ H28 rfl rfl rfl rfl) rfl (v := .agg (bs q)) (dd_load HS20 0 0 rfl rfl (H28.ev 1 rfl) (slab_whole _) Tryd.underlying36 rfl (by rw [show (bs q).size = 32 from ((size_bs _).trans hq)]; kernel_rfl)) fun a29 H29 => ?_
   clear H23 a23 H26 a26 H27 a27 H28 a28
   cases hb31 : decide (encT [] = q)
   case false =>
    refine wl_ <| ig H29 (wg_ H29 rfl rfl rfl rfl) rfl (v := .bool true) (dd_nea (b := false) rfl (H29.ev 38 rfl) (H29.ev 39 rfl) (by kernel_rfl) (fun w => by have h9 := eql_blk (encT []) q (length_encT _) hq w; rw [hb31] at h9; exact h9) rfl) fun a32 H32 => wl_ <| p_ H32 rfl rfl fun a33 H33 => ln_ <| nx <| ct_ H33 rfl <| sq_ <| rl_ <| q_ H33 2 rfl fun a34 H34 => ln_ <| nx <| wp_ret <| tr <| ret_run H34.env0 (res_tt Tryd.results44 (H34.get 2 rfl) (H34.get 3 rfl)) <| ?_
    clear H29 a29 H32 a32 H33 a33
    have hbad := okD_no (q := q) (fun ⟨_, h2, h3⟩ => by exact of_decide_eq_false hb31 (hQ ▸ h3))
    exact ⟨_, by rw [(dec_bad hbad).2], by rw [(dec_bad hbad).1]; exact OV.nil _ _, HS20.below⟩
   case true =>
    refine wl_ <| ig H29 (wg_ H29 rfl rfl rfl rfl) rfl (v := .bool false) (dd_nea (b := true) rfl (H29.ev 38 rfl) (H29.ev 39 rfl) (by kernel_rfl) (fun w => by have h9 := eql_blk (encT []) q (length_encT _) hq w; rw [hb31] at h9; exact h9) rfl) fun a35 H35 => wl_ <| p_ H35 rfl rfl fun a36 H36 => ln_ <| nx <| cf_ H36 rfl <| wp_skip <| nx <| sq_ <| rl_ <| q_ H36 3 rfl fun a37 H37 => ln_ <| nx <| wp_ret <| ret_run H37.env0 (res_tt Tryd.results44 (H37.get 2 rfl) (H37.get 3 rfl)) <| ?_
    clear H29 a29 H35 a35 H36 a36
    have hok := okD_yes (q := q) (by rw [h0]; decide) (by rw [hQ]; exact encE_z.1 hc25) (by rw [hQ]; exact of_decide_eq_true hb31)
    exact ⟨_, by rw [(dec_good hok).2], by rw [(dec_good hok).1, hQ]; exact ⟨_, ⟨rfl, .inr ⟨_, 0, _, rfl, st_fresh HS20 1 rfl, HS20.row 1 rfl, Nat.le_refl _, by decide, rfl, rfl⟩⟩, cellsV_nil _ _⟩, HS20.below⟩
  ·
   refine wl_ <| i_ H23 rfl (dd_cmp rfl (H23.ev 35 rfl) rfl (ne_t hc25)) fun a38 H38 => wl_ <| p_ H38 rfl rfl fun a39 H39 => wl_ <| k_ H39 (wg_ H39 rfl rfl rfl rfl) rfl fun a40 H40 => wl_ <| k_ H40 (wg_ H40 rfl rfl rfl rfl) rfl fun a41 H41 => wl_ <| k_ H41 (wg_ H41 rfl rfl rfl rfl) rfl fun a42 H42 => wl_ <| p_ H42 rfl rfl fun a43 H43 => ln_ <| nx <| ct_ H43 rfl <| sq_ <| rl_ <| q_ H43 2 rfl fun a44 H44 => ln_ <| nx <| wp_ret <| tr <| ret_run H44.env0 (res_tt Tryd.results44 (H44.get 2 rfl) (H44.get 3 rfl)) <| ?_
   clear H23 a23 H38 a38 H39 a39 H40 a40 H41 a41 H42 a42 H43 a43
   have hbad := okD_no (q := q) (fun ⟨_, h2, h3⟩ => by exact hc25 (encE_z.2 (hQ ▸ h2)))
   exact ⟨_, by rw [(dec_bad hbad).2], by rw [(dec_bad hbad).1]; exact OV.nil _ _, HS20.below⟩
set_option maxRecDepth 10000 in
set_option maxHeartbeats 1600000 in
theorem dect1 (q : List (BitVec 8)) (w : World) (hq : q.length = 32) (h0 : q.getD 0 0#8 = 1#8) :
    Calls Tryd.prog 44 #[.agg (bs q)] w fun e w' => ∃ v, e = .returned (.tuple #[v, .int .i64 (decE q)]) ∧ OV w.heap.size w' v (volL (decLT q)) ∧ Below w.heap.size w w' := by
  have HS := St.nil w noF
  have hQ : decQ q = [volQ ((q.drop 1).take 9)] := by unfold decQ; rw [h0]; rfl
  refine enter_en Tryd.func44 rfl Tryd.ntmps44 (Nat.le_of_ble_eq_true rfl) fun a0 (HA0 : En 43 [(0, .agg (bs q))] a0) => ?_
  refine sq_ <| rl_ <| wl_ <| n_ HA0 rfl (fun _ h => dd_box HS rfl (HA0.ev 0 rfl) (cs := (bs q)) rfl h) fun g1 W1 HS1 a1 H1 => q_ H1 2 rfl fun a2 H2 => ln_ <| nx <| sq_ <| sq_ <| rl_ <| wl_ <| i_ H2 rfl (xA 32 1 0 rfl (H2.ev 1 rfl) rfl) fun a3 H3 => wl_ <| i_ H3 rfl (v := .int .u8 1) (dd_get HS1 0 0 rfl rfl (H3.ev 8 rfl) ((bs_get hq 0 (by decide)).trans (by rw [h0]; rfl)) Tryd.underlying5 rfl) fun a4 H4 => wl_ <| i_ H4 rfl (dd_cmp rfl (H4.ev 9 rfl) rfl (gt_f (by decide))) fun a5 H5 => ln_ <| nx <| cf_ H5 rfl <| wp_skip <| nx <| sq_ <| rl_ <| wl_ <| i_ H5 rfl (xA 32 1 0 rfl (H5.ev 1 rfl) rfl) fun a6 H6 => wl_ <| i_ H6 rfl (v := .int .u8 1) (dd_get HS1 0 0 rfl rfl (H6.ev 11 rfl) ((bs_get hq 0 (by decide)).trans (by rw [h0]; rfl)) Tryd.underlying5 rfl) fun a7 H7 => wl_ <| n_ H7 rfl (A := fun g13 => .slice (some ⟨g13, 0, none⟩) 1 1) (fun _ h => dd_mk HS1 rfl (H7.ev 12 rfl) (H7.ev 12 rfl) (z := .agg #[.string (⟨#[]⟩), .slice none 0 0]) (sz := 2) (bytes := 40) (cs := #[.string (⟨#[]⟩), .slice none 0 0]) Tryd.underlying75 (by kernel_rfl) (by decide) (by decide) (by decide) (by kernel_rfl) h) fun g13 W8 HS8 a8 H8 => ?_
  clear HS HA0 a0 H1 a1 H2 a2 H3 a3 H4 a4 H5 a5 H6 a6
  refine wl_ <| p_ H8 rfl rfl fun a9 H9 => ln_ <| nx <| sq_ <| sq_ <| rl_ <| wl_ <| p_ H9 rfl rfl fun a10 H10 => wl_ <| i_ H10 rfl (v := .int .i64 1) (dd_len rfl (H10.ev 14 rfl) Tryd.underlying75) fun a11 H11 => wl_ <| p_ H11 rfl rfl fun a12 H12 => ln_ <| nx <| wp_block <| wp_unr 2 <| unr_go <| sq_ <| rl_ <| wl_ <| i_ H12 rfl (dd_cmp rfl (H12.ev 16 rfl) (H12.ev 15 rfl) (lt_t (by decide))) fun a13 H13 => ln_ <| nx <| sq_ <| ct_ H13 rfl <| wp_skip <| nx <| sq_ <| wp_block <| sq_ <| rl_ <| q_ H13 2 rfl fun a14 H14 => ln_ <| nx <| rl_ <| q_ H14 3 rfl fun a15 H15 => wl_ <| i_ H15 rfl (v := .int .i64 0) (dd_ari rfl (H15.ev 21 rfl) rfl rfl (by decide)) fun a16 H16 => ?_
  clear HS1 H7 a7 H8 a8 H9 a9 H10 a10 H11 a11 H12 a12 H13 a13 H14 a14
  refine wl_ <| i_ H16 rfl (v := .int .i64 1) (dd_ari rfl rfl (H16.ev 22 rfl) rfl (by decide)) fun a17 H17 => wl_ <| i_ H17 rfl (v := .slice (some ⟨g1, 1, none⟩) 31 31) (dd_slAl (l := 1) (n := 32) (sz := 1) (j := 1) rfl (H17.ev 1 rfl) (H17.ev 23 rfl) (by kernel_rfl) (by decide) rfl rfl) fun a18 H18 => wl_ <| i_ H18 rfl (v := .pointer (some ⟨g1, 1, none⟩)) (dd_s2a (m := 9) (sz := 1) rfl (H18.ev 24 rfl) (by kernel_rfl) (by decide)) fun a19 H19 => wl_ <| i_ H19 rfl (v := .agg (bs ((q.drop 1).take 9))) (dd_load HS8 0 1 rfl rfl (H19.ev 25 rfl) (bs_slab hq 1 9 (by decide)) Tryd.underlying110 rfl (by rw [show (bs ((q.drop 1).take 9)).size = 9 from ((size_bs _).trans (len_take (n := 32 - 1) (len_drop hq rfl) (by decide)))]; kernel_rfl)) fun a20 H20 => ?_
  clear H15 a15 H16 a16 H17 a17 H18 a18 H19 a19
  refine wl_ <| d_ H20 rfl (R := fun v w9 => ∃ gf22, v = .agg #[.string (strB (volQ ((q.drop 1).take 9)).1), .slice (some ⟨gf22, 0, none⟩) ((fromL ((q.drop 1).take 9)).length) ((fromL ((q.drop 1).take 9)).length)] ∧ (W8.heap.size ≤ gf22) ∧ (Row w9 gf22 3 (intsV (fromL ((q.drop 1).take 9))).toArray) ∧ Below W8.heap.size W8 w9) (dc_ Tryd.func53 rfl (args1 (H20.ev 26 rfl)) (frombytes_any ((q.drop 1).take 9) W8 (len_take (n := 32 - 1) (len_drop hq rfl) (by decide))) (fun _ w9 ⟨g9, he, h1, h2, hb⟩ => ⟨_, he, g9, rfl, h1, h2, hb⟩)) ?_
  rintro _ W21 ⟨gf22, rfl, hg22, hr22, hb21⟩ a21 H21
  have HS21 := HS8.same hb21
  clear H20 a20
  have HS21j : St w noF [⟨g1, 36, bs q⟩, ⟨g13, 81, #[.string (⟨#[]⟩), .slice none 0 0]⟩, ⟨gf22, 3, (intsV (fromL ((q.drop 1).take 9))).toArray⟩] W21 := HS8.joins hb21 hr22 hg22
  clear HS21 hr22 hg22
  clear HS8 hb21
  refine wl_ <| i_ H21 rfl (xS 2 0 rfl (H21.ev 19 rfl) (H21.ev 20 rfl)) fun a23 H23 => wl_ <| t_ rfl (fun _ h => dd_setrow HS21j 1 rfl rfl (H23.ev 28 rfl) (H23.ev 27 rfl) (by kernel_rfl) (rfl : #[.string (strB (volQ ((q.drop 1).take 9)).1), .slice (some ⟨gf22, 0, none⟩) ((fromL ((q.drop 1).take 9)).length) ((fromL ((q.drop 1).take 9)).length)].size = 2) (rfl : #[.string (⟨#[]⟩), .slice none 0 0].size = 2) (one_l (ao_cons rfl (ao_cons rfl ao_nil))) h) fun W24 HS24 => ln_ <| ?_
  clear H21 a21 HS21j
  have H25 := H23.sel [1, 4, 15, 16] rfl
  refine bn <| nx <| rl_ <| wl_ <| i_ H25 rfl (v := .int .i64 1) (dd_ari rfl (H25.ev 16 rfl) rfl rfl (by decide)) fun a26 H26 => wl_ <| p_ H26 rfl rfl fun a27 H27 => ln_ <| nx <| unr_go <| sq_ <| rl_ <| wl_ <| i_ H27 rfl (dd_cmp rfl (H27.ev 16 rfl) (H27.ev 15 rfl) (lt_f (by decide))) fun a28 H28 => ln_ <| nx <| sq_ <| cf_ H28 rfl <| wp_exit <| tx <| tx <| bx <| nx <| sq_ <| sq_ <| rl_ <| wl_ <| p_ H28 rfl rfl fun a29 H29 => wl_ <| c_ H29 rfl HS24 (dcs Tryd.func48 rfl (args1 (H29.ev 31 rfl)) (enct_any _ _ _ [volQ ((q.drop 1).take 9)] W24 (vols_row (l := volL [volQ ((q.drop 1).take 9)]) (HS24.row 1 rfl) (Nat.le_refl _) (by show 1 ≤ maxLen; decide) (get_consP (volAt_of (ints_rowI (HS24.row 2 rfl) (Nat.le_trans (fromL_len _) (by decide)) (fromL_bound _)) (Nat.le_trans (volQ_name _ (by rw [List.length_take, List.length_drop, hq]; rfl)) (by decide))) (get_nilP))) (by decide) (small_vq (l := [(q.drop 1).take 9]))) (.tuple #[.agg (bs (encT [volQ ((q.drop 1).take 9)])), .int .i64 (encE [volQ ((q.drop 1).take 9)])])) fun W30 HS30 a30 H30 => wl_ <| p_ H30 rfl rfl fun a31 H31 => wl_ <| i_ H31 rfl (dd_ext rfl (H31.ev 30 rfl) rfl) fun a32 H32 => wl_ <| i_ H32 rfl (dd_ext rfl (H32.ev 30 rfl) rfl) fun a33 H33 => ?_
  clear H23 H25 a23 H26 a26 H27 a27 H28 a28 H29 a29 HS24 H30 a30 H31 a31
  refine wl_ <| n_ H33 rfl (fun _ h => dd_new HS30 (bs (zer 32)) rfl (z := .agg (bs (zer 32))) (by kernel_rfl) rfl h) fun g6 W34 HS34 a34 H34 => wl_ <| t_ rfl (fun _ h => dd_setrow HS34 3 rfl rfl (H34.ev 6 rfl) (H34.ev 33 rfl) (by kernel_rfl) (((size_bs _).trans (length_encT _)) : (bs (encT [volQ ((q.drop 1).take 9)])).size = 32) (((size_bs _).trans (length_zer 32)) : (bs (zer 32)).size = 32) (one_bs _) h) fun W35 HS35 => wl_ <| p_ H34 rfl rfl fun a36 H36 => ln_ <| nx <| sq_ <| rl_ <| wl_ <| p_ H36 rfl rfl fun a37 H37 => ?_
  clear H32 a32 HS30 H33 a33 HS34 H34 a34 H36 a36
  by_cases hc39 : (encE [volQ ((q.drop 1).take 9)] : Int) = 0
  ·
   refine wl_ <| i_ H37 rfl (dd_cmp rfl (H37.ev 35 rfl) rfl (ne_f hc39)) fun a40 H40 => wl_ <| p_ H40 rfl rfl fun a41 H41 => wl_ <| ig H41 (wg_ H41 rfl rfl rfl rfl) rfl (v := .agg (bs (encT [volQ ((q.drop 1).take 9)]))) (dd_load HS35 3 0 rfl rfl (H41.ev 6 rfl) (slab_whole _) Tryd.underlying36 rfl (by rw [show (bs (encT [volQ ((q.drop 1).take 9)])).size = 32 from ((size_bs _).trans (length_encT _))]; kernel_rfl)) fun a42 H42 => wl_ <| ig H42 (wg_ H42 rfl rfl rfl rfl) rfl (v := .agg (bs q)) (dd_load HS35 0 0 rfl rfl (H42.ev 1 rfl) (slab_whole _) Tryd.underlying36 rfl (by rw [show (bs q).size = 32 from ((size_bs _).trans hq)]; kernel_rfl)) fun a43 H43 => ?_
   clear H37 a37 H40 a40 H41 a41 H42 a42
   cases hb45 : decide (encT [volQ ((q.drop 1).take 9)] = q)
   case false =>
    refine wl_ <| ig H43 (wg_ H43 rfl rfl rfl rfl) rfl (v := .bool true) (dd_nea (b := false) rfl (H43.ev 38 rfl) (H43.ev 39 rfl) (by kernel_rfl) (fun w => by have h9 := eql_blk (encT [volQ ((q.drop 1).take 9)]) q (length_encT _) hq w; rw [hb45] at h9; exact h9) rfl) fun a46 H46 => wl_ <| p_ H46 rfl rfl fun a47 H47 => ln_ <| ?_
    clear H43 a43 H46 a46
    have H48 := H47.sel [4, 41] rfl
    refine nx <| ct_ H48 rfl <| sq_ <| rl_ <| q_ H48 2 rfl fun a49 H49 => ln_ <| nx <| wp_ret <| tr <| ret_run H49.env0 (res_tt Tryd.results44 (H49.get 2 rfl) (H49.get 3 rfl)) <| ?_
    clear H47 H48 a47
    have hbad := okD_no (q := q) (fun ⟨_, h2, h3⟩ => by exact of_decide_eq_false hb45 (hQ ▸ h3))
    exact ⟨_, by rw [(dec_bad hbad).2], by rw [(dec_bad hbad).1]; exact OV.nil _ _, HS35.below⟩
   case true =>
    refine wl_ <| ig H43 (wg_ H43 rfl rfl rfl rfl) rfl (v := .bool false) (dd_nea (b := true) rfl (H43.ev 38 rfl) (H43.ev 39 rfl) (by kernel_rfl) (fun w => by have h9 := eql_blk (encT [volQ ((q.drop 1).take 9)]) q (length_encT _) hq w; rw [hb45] at h9; exact h9) rfl) fun a50 H50 => wl_ <| p_ H50 rfl rfl fun a51 H51 => ln_ <| ?_
    clear H43 a43 H50 a50
    have H52 := H51.sel [4, 41] rfl
    refine nx <| cf_ H52 rfl <| wp_skip <| nx <| sq_ <| rl_ <| q_ H52 3 rfl fun a53 H53 => ln_ <| nx <| wp_ret <| ret_run H53.env0 (res_tt Tryd.results44 (H53.get 2 rfl) (H53.get 3 rfl)) <| ?_
    clear H51 H52 a51
    have hok := okD_yes (q := q) (by rw [h0]; decide) (by rw [hQ]; exact encE_z.1 hc39) (by rw [hQ]; exact of_decide_eq_true hb45)
    exact ⟨_, by rw [(dec_good hok).2], by rw [(dec_good hok).1, hQ]; exact ⟨_, ⟨rfl, .inr ⟨_, 1, _, rfl, st_fresh HS35 1 rfl, HS35.row 1 rfl, Nat.le_refl _, by decide, rfl, rfl⟩⟩, cellsV_cons (.inr ⟨own_rowI (HS35.row 2 rfl) (st_fresh HS35 2 rfl) (Nat.le_trans (fromL_len _) (by decide)), fromL_bound _⟩) (Nat.le_trans (volQ_name _ (by rw [List.length_take, List.length_drop, hq]; rfl)) (by decide)) (cellsV_nil _ _)⟩, HS35.below⟩
  ·
   refine wl_ <| i_ H37 rfl (dd_cmp rfl (H37.ev 35 rfl) rfl (ne_t hc39)) fun a54 H54 => wl_ <| p_ H54 rfl rfl fun a55 H55 => wl_ <| k_ H55 (wg_ H55 rfl rfl rfl rfl) rfl fun a56 H56 => wl_ <| k_ H56 (wg_ H56 rfl rfl rfl rfl) rfl fun a57 H57 => wl_ <| k_ H57 (wg_ H57 rfl rfl rfl rfl) rfl fun a58 H58 => wl_ <| p_ H58 rfl rfl fun a59 H59 => ln_ <| ?_
   clear H37 a37 H54 a54 H55 a55 H56 a56 H57 a57 H58 a58
   have H60 := H59.sel [4, 41] rfl
   refine nx <| ct_ H60 rfl <| sq_ <| rl_ <| q_ H60 2 rfl fun a61 H61 => ln_ <| nx <| wp_ret <| tr <| ret_run H61.env0 (res_tt Tryd.results44 (H61.get 2 rfl) (H61.get 3 rfl)) <| ?_
   clear H59 H60 a59
   have hbad := okD_no (q := q) (fun ⟨_, h2, h3⟩ => by exact hc39 (encE_z.2 (hQ ▸ h2)))
   exact ⟨_, by rw [(dec_bad hbad).2], by rw [(dec_bad hbad).1]; exact OV.nil _ _, HS35.below⟩
set_option maxRecDepth 10000 in
set_option maxHeartbeats 1600000 in
theorem dect2 (q : List (BitVec 8)) (w : World) (hq : q.length = 32) (h0 : q.getD 0 0#8 = 2#8) :
    Calls Tryd.prog 44 #[.agg (bs q)] w fun e w' => ∃ v, e = .returned (.tuple #[v, .int .i64 (decE q)]) ∧ OV w.heap.size w' v (volL (decLT q)) ∧ Below w.heap.size w w' := by
  have HS := St.nil w noF
  have hQ : decQ q = [volQ ((q.drop 1).take 9), volQ ((q.drop 10).take 9)] := by unfold decQ; rw [h0]; rfl
  refine enter_en Tryd.func44 rfl Tryd.ntmps44 (Nat.le_of_ble_eq_true rfl) fun a0 (HA0 : En 43 [(0, .agg (bs q))] a0) => ?_
  refine sq_ <| rl_ <| wl_ <| n_ HA0 rfl (fun _ h => dd_box HS rfl (HA0.ev 0 rfl) (cs := (bs q)) rfl h) fun g1 W1 HS1 a1 H1 => q_ H1 2 rfl fun a2 H2 => ln_ <| nx <| sq_ <| sq_ <| rl_ <| wl_ <| i_ H2 rfl (xA 32 1 0 rfl (H2.ev 1 rfl) rfl) fun a3 H3 => wl_ <| i_ H3 rfl (v := .int .u8 2) (dd_get HS1 0 0 rfl rfl (H3.ev 8 rfl) ((bs_get hq 0 (by decide)).trans (by rw [h0]; rfl)) Tryd.underlying5 rfl) fun a4 H4 => wl_ <| i_ H4 rfl (dd_cmp rfl (H4.ev 9 rfl) rfl (gt_f (by decide))) fun a5 H5 => ln_ <| nx <| cf_ H5 rfl <| wp_skip <| nx <| sq_ <| rl_ <| wl_ <| i_ H5 rfl (xA 32 1 0 rfl (H5.ev 1 rfl) rfl) fun a6 H6 => wl_ <| i_ H6 rfl (v := .int .u8 2) (dd_get HS1 0 0 rfl rfl (H6.ev 11 rfl) ((bs_get hq 0 (by decide)).trans (by rw [h0]; rfl)) Tryd.underlying5 rfl) fun a7 H7 => wl_ <| n_ H7 rfl (A := fun g13 => .slice (some ⟨g13, 0, none⟩) 2 2) (fun _ h => dd_mk HS1 rfl (H7.ev 12 rfl) (H7.ev 12 rfl) (z := .agg #[.string (⟨#[]⟩), .slice none 0 0]) (sz := 2) (bytes := 40) (cs := #[.string (⟨#[]⟩), .slice none 0 0, .string (⟨#[]⟩), .slice none 0 0]) Tryd.underlying75 (by kernel_rfl) (by decide) (by decide) (by decide) (by kernel_rfl) h) fun g13 W8 HS8 a8 H8 => ?_
  clear HS HA0 a0 H1 a1 H2 a2 H3 a3 H4 a4 H5 a5 H6 a6
  refine wl_ <| p_ H8 rfl rfl fun a9 H9 => ln_ <| nx <| sq_ <| sq_ <| rl_ <| wl_ <| p_ H9 rfl rfl fun a10 H10 => wl_ <| i_ H10 rfl (v := .int .i64 2) (dd_len rfl (H10.ev 14 rfl) Tryd.underlying75) fun a11 H11 => wl_ <| p_ H11 rfl rfl fun a12 H12 => ln_ <| nx <| wp_block <| wp_unr 3 <| unr_go <| sq_ <| rl_ <| wl_ <| i_ H12 rfl (dd_cmp rfl (H12.ev 16 rfl) (H12.ev 15 rfl) (lt_t (by decide))) fun a13 H13 => ln_ <| nx <| sq_ <| ct_ H13 rfl <| wp_skip <| nx <| sq_ <| wp_block <| sq_ <| rl_ <| q_ H13 2 rfl fun a14 H14 => ln_ <| nx <| rl_ <| q_ H14 3 rfl fun a15 H15 => wl_ <| i_ H15 rfl (v := .int .i64 0) (dd_ari rfl (H15.ev 21 rfl) rfl rfl (by decide)) fun a16 H16 => ?_
  clear HS1 H7 a7 H8 a8 H9 a9 H10 a10 H11 a11 H12 a12 H13 a13 H14 a14
  refine wl_ <| i_ H16 rfl (v := .int .i64 1) (dd_ari rfl rfl (H16.ev 22 rfl) rfl (by decide)) fun a17 H17 => wl_ <| i_ H17 rfl (v := .slice (some ⟨g1, 1, none⟩) 31 31) (dd_slAl (l := 1) (n := 32) (sz := 1) (j := 1) rfl (H17.ev 1 rfl) (H17.ev 23 rfl) (by kernel_rfl) (by decide) rfl rfl) fun a18 H18 => wl_ <| i_ H18 rfl (v := .pointer (some ⟨g1, 1, none⟩)) (dd_s2a (m := 9) (sz := 1) rfl (H18.ev 24 rfl) (by kernel_rfl) (by decide)) fun a19 H19 => wl_ <| i_ H19 rfl (v := .agg (bs ((q.drop 1).take 9))) (dd_load HS8 0 1 rfl rfl (H19.ev 25 rfl) (bs_slab hq 1 9 (by decide)) Tryd.underlying110 rfl (by rw [show (bs ((q.drop 1).take 9)).size = 9 from ((size_bs _).trans (len_take (n := 32 - 1) (len_drop hq rfl) (by decide)))]; kernel_rfl)) fun a20 H20 => ?_
  clear H15 a15 H16 a16 H17 a17 H18 a18 H19 a19
  refine wl_ <| d_ H20 rfl (R := fun v w9 => ∃ gf22, v = .agg #[.string (strB (volQ ((q.drop 1).take 9)).1), .slice (some ⟨gf22, 0, none⟩) ((fromL ((q.drop 1).take 9)).length) ((fromL ((q.drop 1).take 9)).length)] ∧ (W8.heap.size ≤ gf22) ∧ (Row w9 gf22 3 (intsV (fromL ((q.drop 1).take 9))).toArray) ∧ Below W8.heap.size W8 w9) (dc_ Tryd.func53 rfl (args1 (H20.ev 26 rfl)) (frombytes_any ((q.drop 1).take 9) W8 (len_take (n := 32 - 1) (len_drop hq rfl) (by decide))) (fun _ w9 ⟨g9, he, h1, h2, hb⟩ => ⟨_, he, g9, rfl, h1, h2, hb⟩)) ?_
  rintro _ W21 ⟨gf22, rfl, hg22, hr22, hb21⟩ a21 H21
  have HS21 := HS8.same hb21
  clear H20 a20
  have HS21j : St w noF [⟨g1, 36, bs q⟩, ⟨g13, 81, #[.string (⟨#[]⟩), .slice none 0 0, .string (⟨#[]⟩), .slice none 0 0]⟩, ⟨gf22, 3, (intsV (fromL ((q.drop 1).take 9))).toArray⟩] W21 := HS8.joins hb21 hr22 hg22
  clear HS21 hr22 hg22
  clear HS8 hb21
  refine wl_ <| i_ H21 rfl (xS 2 0 rfl (H21.ev 19 rfl) (H21.ev 20 rfl)) fun a23 H23 => wl_ <| t_ rfl (fun _ h => dd_store (cs := #[.string (strB (volQ ((q.drop 1).take 9)).1), .slice (some ⟨gf22, 0, none⟩) ((fromL ((q.drop 1).take 9)).length) ((fromL ((q.drop 1).take 9)).length), .string (⟨#[]⟩), .slice none 0 0]) HS21j 1 0 rfl rfl (H23.ev 28 rfl) (H23.ev 27 rfl) (by kernel_rfl) (Nat.le_of_ble_eq_true rfl) (one_l (ao_cons rfl (ao_cons rfl ao_nil))) rfl h) fun W24 HS24 => ln_ <| ?_
  clear H21 a21 HS21j
  have H25 := H23.sel [1, 4, 15, 16] rfl
  refine bn <| nx <| rl_ <| wl_ <| i_ H25 rfl (v := .int .i64 1) (dd_ari rfl (H25.ev 16 rfl) rfl rfl (by decide)) fun a26 H26 => wl_ <| p_ H26 rfl rfl fun a27 H27 => ln_ <| nx <| unr_go <| sq_ <| rl_ <| wl_ <| i_ H27 rfl (dd_cmp rfl (H27.ev 16 rfl) (H27.ev 15 rfl) (lt_t (by decide))) fun a28 H28 => ln_ <| nx <| sq_ <| ct_ H28 rfl <| wp_skip <| nx <| sq_ <| wp_block <| sq_ <| rl_ <| q_ H28 2 rfl fun a29 H29 => ln_ <| nx <| rl_ <| q_ H29 3 rfl fun a30 H30 => wl_ <| i_ H30 rfl (v := .int .i64 9) (dd_ari rfl (H30.ev 21 rfl) rfl rfl (by decide)) fun a31 H31 => wl_ <| i_ H31 rfl (v := .int .i64 10) (dd_ari rfl rfl (H31.ev 22 rfl) rfl (by decide)) fun a32 H32 => wl_ <| i_ H32 rfl (v := .slice (some ⟨g1, 10, none⟩) 22 22) (dd_slAl (l := 10) (n := 32) (sz := 1) (j := 10) rfl (H32.ev 1 rfl) (H32.ev 23 rfl) (by kernel_rfl) (by decide) rfl rfl) fun a33 H33 => ?_
  clear H23 H25 a23 H26 a26 H27 a27 H28 a28 H29 a29 H30 a30 H31 a31
  refine wl_ <| i_ H33 rfl (v := .pointer (some ⟨g1, 10, none⟩)) (dd_s2a (m := 9) (sz := 1) rfl (H33.ev 24 rfl) (by kernel_rfl) (by decide)) fun a34 H34 => wl_ <| i_ H34 rfl (v := .agg (bs ((q.drop 10).take 9))) (dd_load HS24 0 10 rfl rfl (H34.ev 25 rfl) (bs_slab hq 10 9 (by decide)) Tryd.underlying110 rfl (by rw [show (bs ((q.drop 10).take 9)).size = 9 from ((size_bs _).trans (len_take (n := 32 - 10) (len_drop hq rfl) (by decide)))]; kernel_rfl)) fun a35 H35 => ?_
  clear H32 a32 H33 a33 H34 a34
  refine wl_ <| d_ H35 rfl (R := fun v w9 => ∃ gf37, v = .agg #[.string (strB (volQ ((q.drop 10).take 9)).1), .slice (some ⟨gf37, 0, none⟩) ((fromL ((q.drop 10).take 9)).length) ((fromL ((q.drop 10).take 9)).length)] ∧ (W24.heap.size ≤ gf37) ∧ (Row w9 gf37 3 (intsV (fromL ((q.drop 10).take 9))).toArray) ∧ Below W24.heap.size W24 w9) (dc_ Tryd.func53 rfl (args1 (H35.ev 26 rfl)) (frombytes_any ((q.drop 10).take 9) W24 (len_take (n := 32 - 10) (len_drop hq rfl) (by decide))) (fun _ w9 ⟨g9, he, h1, h2, hb⟩ => ⟨_, he, g9, rfl, h1, h2, hb⟩)) ?_
  rintro _ W36 ⟨gf37, rfl, hg37, hr37, hb36⟩ a36 H36
  have HS36 := HS24.same hb36
  clear H35 a35
  have HS36j : St w noF [⟨g1, 36, bs q⟩, ⟨g13, 81, #[.string (strB (volQ ((q.drop 1).take 9)).1), .slice (some ⟨gf22, 0, none⟩) ((fromL ((q.drop 1).take 9)).length) ((fromL ((q.drop 1).take 9)).length), .string (⟨#[]⟩), .slice none 0 0]⟩, ⟨gf22, 3, (intsV (fromL ((q.drop 1).take 9))).toArray⟩, ⟨gf37, 3, (intsV (fromL ((q.drop 10).take 9))).toArray⟩] W36 := HS24.joins hb36 hr37 hg37
  clear HS36 hr37 hg37
  clear HS24 hb36
  refine wl_ <| i_ H36 rfl (xS 2 2 rfl (H36.ev 19 rfl) (H36.ev 20 rfl)) fun a38 H38 => wl_ <| t_ rfl (fun _ h => dd_store (cs := #[.string (strB (volQ ((q.drop 1).take 9)).1), .slice (some ⟨gf22, 0, none⟩) ((fromL ((q.drop 1).take 9)).length) ((fromL ((q.drop 1).take 9)).length), .string (strB (volQ ((q.drop 10).take 9)).1), .slice (some ⟨gf37, 0, none⟩) ((fromL ((q.drop 10).take 9)).length) ((fromL ((q.drop 10).take 9)).length)]) HS36j 1 2 rfl rfl (H38.ev 28 rfl) (H38.ev 27 rfl) (by kernel_rfl) (Nat.le_of_ble_eq_true rfl) (one_l (ao_cons rfl (ao_cons rfl ao_nil))) rfl h) fun W39 HS39 => ln_ <| bn <| nx <| rl_ <| wl_ <| i_ H38 rfl (v := .int .i64 2) (dd_ari rfl (H38.ev 16 rfl) rfl rfl (by decide)) fun a40 H40 => wl_ <| p_ H40 rfl rfl fun a41 H41 => ln_ <| nx <| unr_go <| sq_ <| rl_ <| wl_ <| i_ H41 rfl (dd_cmp rfl (H41.ev 16 rfl) (H41.ev 15 rfl) (lt_f (by decide))) fun a42 H42 => ln_ <| nx <| sq_ <| cf_ H42 rfl <| wp_exit <| tx <| tx <| bx <| nx <| sq_ <| sq_ <| rl_ <| wl_ <| p_ H42 rfl rfl fun a43 H43 => wl_ <| c_ H43 rfl HS39 (dcs Tryd.func48 rfl (args1 (H43.ev 31 rfl)) (enct_any _ _ _ [volQ ((q.drop 1).take 9), volQ ((q.drop 10).take 9)] W39 (vols_row (l := volL [volQ ((q.drop 1).take 9), volQ ((q.drop 10).take 9)]) (HS39.row 1 rfl) (Nat.le_refl _) (by show 2 ≤ maxLen; decide) (get_consP (volAt_of (ints_rowI (HS39.row 2 rfl) (Nat.le_trans (fromL_len _) (by decide)) (fromL_bound _)) (Nat.le_trans (volQ_name _ (by rw [List.length_take, List.length_drop, hq]; rfl)) (by decide))) (get_consP (volAt_of (ints_rowI (HS39.row 3 rfl) (Nat.le_trans (fromL_len _) (by decide)) (fromL_bound _)) (Nat.le_trans (volQ_name _ (by rw [List.length_take, List.length_drop, hq]; rfl)) (by decide))) (get_nilP)))) (by decide) (small_vq (l := [(q.drop 1).take 9, (q.drop 10).take 9]))) (.tuple #[.agg (bs (encT [volQ ((q.drop 1).take 9), volQ ((q.drop 10).take 9)])), .int .i64 (encE [volQ ((q.drop 1).take 9), volQ ((q.drop 10).take 9)])])) fun W44 HS44 a44 H44 => wl_ <| p_ H44 rfl rfl fun a45 H45 => ?_
  clear H36 a36 HS36j H38 a38 H40 a40 H41 a41 H42 a42 H43 a43 HS39
  refine wl_ <| i_ H45 rfl (dd_ext rfl (H45.ev 30 rfl) rfl) fun a46 H46 => wl_ <| i_ H46 rfl (dd_ext rfl (H46.ev 30 rfl) rfl) fun a47 H47 => wl_ <| n_ H47 rfl (fun _ h => dd_new HS44 (bs (zer 32)) rfl (z := .agg (bs (zer 32))) (by kernel_rfl) rfl h) fun g6 W48 HS48 a48 H48 => wl_ <| t_ rfl (fun _ h => dd_setrow HS48 4 rfl rfl (H48.ev 6 rfl) (H48.ev 33 rfl) (by kernel_rfl) (((size_bs _).trans (length_encT _)) : (bs (encT [volQ ((q.drop 1).take 9), volQ ((q.drop 10).take 9)])).size = 32) (((size_bs _).trans (length_zer 32)) : (bs (zer 32)).size = 32) (one_bs _) h) fun W49 HS49 => wl_ <| p_ H48 rfl rfl fun a50 H50 => ln_ <| ?_
  clear H44 a44 H45 a45 H46 a46 HS44 H47 a47 HS48 H48 a48
  have H51 := H50.sel [1, 4, 6, 7] rfl
  refine nx <| sq_ <| rl_ <| wl_ <| p_ H51 rfl rfl fun a52 H52 => ?_
  clear H50 H51 a50
  by_cases hc54 : (encE [volQ ((q.drop 1).take 9), volQ ((q.drop 10).take 9)] : Int) = 0
  ·
   refine wl_ <| i_ H52 rfl (dd_cmp rfl (H52.ev 35 rfl) rfl (ne_f hc54)) fun a55 H55 => wl_ <| p_ H55 rfl rfl fun a56 H56 => wl_ <| ig H56 (wg_ H56 rfl rfl rfl rfl) rfl (v := .agg (bs (encT [volQ ((q.drop 1).take 9), volQ ((q.drop 10).take 9)]))) (dd_load HS49 4 0 rfl rfl (H56.ev 6 rfl) (slab_whole _) Tryd.underlying36 rfl (by rw [show (bs (encT [volQ ((q.drop 1).take 9), volQ ((q.drop 10).take 9)])).size = 32 from ((size_bs _).trans (length_encT _))]; kernel_rfl)) fun a57 H57 => wl_ <| ig H57 (wg_ H57 rfl rfl rfl rfl) rfl (v := .agg (bs q)) (dd_load HS49 0 0 rfl rfl (H57.ev 1 rfl) (slab_whole _) Tryd.underlying36 rfl (by rw [show (bs q).size = 32 from ((size_bs _).trans hq)]; kernel_rfl)) fun a58 H58 => ?_
   clear H52 a52 H55 a55 H56 a56 H57 a57
   cases hb60 : decide (encT [volQ ((q.drop 1).take 9), volQ ((q.drop 10).take 9)] = q)
   case false =>
    refine wl_ <| ig H58 (wg_ H58 rfl rfl rfl rfl) rfl (v := .bool true) (dd_nea (b := false) rfl (H58.ev 38 rfl) (H58.ev 39 rfl) (by kernel_rfl) (fun w => by have h9 := eql_blk (encT [volQ ((q.drop 1).take 9), volQ ((q.drop 10).take 9)]) q (length_encT _) hq w; rw [hb60] at h9; exact h9) rfl) fun a61 H61 => wl_ <| p_ H61 rfl rfl fun a62 H62 => ln_ <| nx <| ct_ H62 rfl <| sq_ <| rl_ <| q_ H62 2 rfl fun a63 H63 => ln_ <| nx <| wp_ret <| tr <| ret_run H63.env0 (res_tt Tryd.results44 (H63.get 2 rfl) (H63.get 3 rfl)) <| ?_
    clear H58 a58 H61 a61 H62 a62
    have hbad := okD_no (q := q) (fun ⟨_, h2, h3⟩ => by exact of_decide_eq_false hb60 (hQ ▸ h3))
    exact ⟨_, by rw [(dec_bad hbad).2], by rw [(dec_bad hbad).1]; exact OV.nil _ _, HS49.below⟩
   case true =>
    refine wl_ <| ig H58 (wg_ H58 rfl rfl rfl rfl) rfl (v := .bool false) (dd_nea (b := true) rfl (H58.ev 38 rfl) (H58.ev 39 rfl) (by kernel_rfl) (fun w => by have h9 := eql_blk (encT [volQ ((q.drop 1).take 9), volQ ((q.drop 10).take 9)]) q (length_encT _) hq w; rw [hb60] at h9; exact h9) rfl) fun a64 H64 => wl_ <| p_ H64 rfl rfl fun a65 H65 => ln_ <| nx <| cf_ H65 rfl <| wp_skip <| nx <| sq_ <| rl_ <| q_ H65 3 rfl fun a66 H66 => ln_ <| nx <| wp_ret <| ret_run H66.env0 (res_tt Tryd.results44 (H66.get 2 rfl) (H66.get 3 rfl)) <| ?_
    clear H58 a58 H64 a64 H65 a65
    have hok := okD_yes (q := q) (by rw [h0]; decide) (by rw [hQ]; exact encE_z.1 hc54) (by rw [hQ]; exact of_decide_eq_true hb60)
    exact ⟨_, by rw [(dec_good hok).2], by rw [(dec_good hok).1, hQ]; exact ⟨_, ⟨rfl, .inr ⟨_, 2, _, rfl, st_fresh HS49 1 rfl, HS49.row 1 rfl, Nat.le_refl _, by decide, rfl, rfl⟩⟩, cellsV_cons (.inr ⟨own_rowI (HS49.row 2 rfl) (st_fresh HS49 2 rfl) (Nat.le_trans (fromL_len _) (by decide)), fromL_bound _⟩) (Nat.le_trans (volQ_name _ (by rw [List.length_take, List.length_drop, hq]; rfl)) (by decide)) (cellsV_cons (.inr ⟨own_rowI (HS49.row 3 rfl) (st_fresh HS49 3 rfl) (Nat.le_trans (fromL_len _) (by decide)), fromL_bound _⟩) (Nat.le_trans (volQ_name _ (by rw [List.length_take, List.length_drop, hq]; rfl)) (by decide)) (cellsV_nil _ _))⟩, HS49.below⟩
  ·
   refine wl_ <| i_ H52 rfl (dd_cmp rfl (H52.ev 35 rfl) rfl (ne_t hc54)) fun a67 H67 => wl_ <| p_ H67 rfl rfl fun a68 H68 => wl_ <| k_ H68 (wg_ H68 rfl rfl rfl rfl) rfl fun a69 H69 => wl_ <| k_ H69 (wg_ H69 rfl rfl rfl rfl) rfl fun a70 H70 => wl_ <| k_ H70 (wg_ H70 rfl rfl rfl rfl) rfl fun a71 H71 => wl_ <| p_ H71 rfl rfl fun a72 H72 => ln_ <| nx <| ct_ H72 rfl <| sq_ <| rl_ <| q_ H72 2 rfl fun a73 H73 => ln_ <| nx <| wp_ret <| tr <| ret_run H73.env0 (res_tt Tryd.results44 (H73.get 2 rfl) (H73.get 3 rfl)) <| ?_
   clear H52 a52 H67 a67 H68 a68 H69 a69 H70 a70 H71 a71 H72 a72
   have hbad := okD_no (q := q) (fun ⟨_, h2, h3⟩ => by exact hc54 (encE_z.2 (hQ ▸ h2)))
   exact ⟨_, by rw [(dec_bad hbad).2], by rw [(dec_bad hbad).1]; exact OV.nil _ _, HS49.below⟩
set_option maxRecDepth 10000 in
set_option maxHeartbeats 1600000 in
theorem dect3 (q : List (BitVec 8)) (w : World) (hq : q.length = 32) (h0 : q.getD 0 0#8 = 3#8) :
    Calls Tryd.prog 44 #[.agg (bs q)] w fun e w' => ∃ v, e = .returned (.tuple #[v, .int .i64 (decE q)]) ∧ OV w.heap.size w' v (volL (decLT q)) ∧ Below w.heap.size w w' := by
  have HS := St.nil w noF
  have hQ : decQ q = [volQ ((q.drop 1).take 9), volQ ((q.drop 10).take 9), volQ ((q.drop 19).take 9)] := by unfold decQ; rw [h0]; rfl
  refine enter_en Tryd.func44 rfl Tryd.ntmps44 (Nat.le_of_ble_eq_true rfl) fun a0 (HA0 : En 43 [(0, .agg (bs q))] a0) => ?_
  refine sq_ <| rl_ <| wl_ <| n_ HA0 rfl (fun _ h => dd_box HS rfl (HA0.ev 0 rfl) (cs := (bs q)) rfl h) fun g1 W1 HS1 a1 H1 => q_ H1 2 rfl fun a2 H2 => ln_ <| nx <| sq_ <| sq_ <| rl_ <| wl_ <| i_ H2 rfl (xA 32 1 0 rfl (H2.ev 1 rfl) rfl) fun a3 H3 => wl_ <| i_ H3 rfl (v := .int .u8 3) (dd_get HS1 0 0 rfl rfl (H3.ev 8 rfl) ((bs_get hq 0 (by decide)).trans (by rw [h0]; rfl)) Tryd.underlying5 rfl) fun a4 H4 => wl_ <| i_ H4 rfl (dd_cmp rfl (H4.ev 9 rfl) rfl (gt_f (by decide))) fun a5 H5 => ln_ <| nx <| cf_ H5 rfl <| wp_skip <| nx <| sq_ <| rl_ <| wl_ <| i_ H5 rfl (xA 32 1 0 rfl (H5.ev 1 rfl) rfl) fun a6 H6 => wl_ <| i_ H6 rfl (v := .int .u8 3) (dd_get HS1 0 0 rfl rfl (H6.ev 11 rfl) ((bs_get hq 0 (by decide)).trans (by rw [h0]; rfl)) Tryd.underlying5 rfl) fun a7 H7 => wl_ <| n_ H7 rfl (A := fun g13 => .slice (some ⟨g13, 0, none⟩) 3 3) (fun _ h => dd_mk HS1 rfl (H7.ev 12 rfl) (H7.ev 12 rfl) (z := .agg #[.string (⟨#[]⟩), .slice none 0 0]) (sz := 2) (bytes := 40) (cs := #[.string (⟨#[]⟩), .slice none 0 0, .string (⟨#[]⟩), .slice none 0 0, .string (⟨#[]⟩), .slice none 0 0]) Tryd.underlying75 (by kernel_rfl) (by decide) (by decide) (by decide) (by kernel_rfl) h) fun g13 W8 HS8 a8 H8 => ?_
  clear HS HA0 a0 H1 a1 H2 a2 H3 a3 H4 a4 H5 a5 H6 a6
  refine wl_ <| p_ H8 rfl rfl fun a9 H9 => ln_ <| nx <| sq_ <| sq_ <| rl_ <| wl_ <| p_ H9 rfl rfl fun a10 H10 => wl_ <| i_ H10 rfl (v := .int .i64 3) (dd_len rfl (H10.ev 14 rfl) Tryd.underlying75) fun a11 H11 => wl_ <| p_ H11 rfl rfl fun a12 H12 => ln_ <| nx <| wp_block <| wp_unr 4 <| unr_go <| sq_ <| rl_ <| wl_ <| i_ H12 rfl (dd_cmp rfl (H12.ev 16 rfl) (H12.ev 15 rfl) (lt_t (by decide))) fun a13 H13 => ln_ <| nx <| sq_ <| ct_ H13 rfl <| wp_skip <| nx <| sq_ <| wp_block <| sq_ <| rl_ <| q_ H13 2 rfl fun a14 H14 => ln_ <| nx <| rl_ <| q_ H14 3 rfl fun a15 H15 => wl_ <| i_ H15 rfl (v := .int .i64 0) (dd_ari rfl (H15.ev 21 rfl) rfl rfl (by decide)) fun a16 H16 => ?_
  clear HS1 H7 a7 H8 a8 H9 a9 H10 a10 H11 a11 H12 a12 H13 a13 H14 a14
  refine wl_ <| i_ H16 rfl (v := .int .i64 1) (dd_ari rfl rfl (H16.ev 22 rfl) rfl (by decide)) fun a17 H17 => wl_ <| i_ H17 rfl (v := .slice (some ⟨g1, 1, none⟩) 31 31) (dd_slAl (l := 1) (n := 32) (sz := 1) (j := 1) rfl (H17.ev 1 rfl) (H17.ev 23 rfl) (by kernel_rfl) (by decide) rfl rfl) fun a18 H18 => wl_ <| i_ H18 rfl (v := .pointer (some ⟨g1, 1, none⟩)) (dd_s2a (m := 9) (sz := 1) rfl (H18.ev 24 rfl) (by kernel_rfl) (by decide)) fun a19 H19 => wl_ <| i_ H19 rfl (v := .agg (bs ((q.drop 1).take 9))) (dd_load HS8 0 1 rfl rfl (H19.ev 25 rfl) (bs_slab hq 1 9 (by decide)) Tryd.underlying110 rfl (by rw [show (bs ((q.drop 1).take 9)).size = 9 from ((size_bs _).trans (len_take (n := 32 - 1) (len_drop hq rfl) (by decide)))]; kernel_rfl)) fun a20 H20 => ?_
  clear H15 a15 H16 a16 H17 a17 H18 a18 H19 a19
  refine wl_ <| d_ H20 rfl (R := fun v w9 => ∃ gf22, v = .agg #[.string (strB (volQ ((q.drop 1).take 9)).1), .slice (some ⟨gf22, 0, none⟩) ((fromL ((q.drop 1).take 9)).length) ((fromL ((q.drop 1).take 9)).length)] ∧ (W8.heap.size ≤ gf22) ∧ (Row w9 gf22 3 (intsV (fromL ((q.drop 1).take 9))).toArray) ∧ Below W8.heap.size W8 w9) (dc_ Tryd.func53 rfl (args1 (H20.ev 26 rfl)) (frombytes_any ((q.drop 1).take 9) W8 (len_take (n := 32 - 1) (len_drop hq rfl) (by decide))) (fun _ w9 ⟨g9, he, h1, h2, hb⟩ => ⟨_, he, g9, rfl, h1, h2, hb⟩)) ?_
  rintro _ W21 ⟨gf22, rfl, hg22, hr22, hb21⟩ a21 H21
  have HS21 := HS8.same hb21
  clear H20 a20
  have HS21j : St w noF [⟨g1, 36, bs q⟩, ⟨g13, 81, #[.string (⟨#[]⟩), .slice none 0 0, .string (⟨#[]⟩), .slice none 0 0, .string (⟨#[]⟩), .slice none 0 0]⟩, ⟨gf22, 3, (intsV (fromL ((q.drop 1).take 9))).toArray⟩] W21 := HS8.joins hb21 hr22 hg22
  clear HS21 hr22 hg22
  clear HS8 hb21
  refine wl_ <| i_ H21 rfl (xS 2 0 rfl (H21.ev 19 rfl) (H21.ev 20 rfl)) fun a23 H23 => wl_ <| t_ rfl (fun _ h => dd_store (cs := #[.string (strB (volQ ((q.drop 1).take 9)).1), .slice (some ⟨gf22, 0, none⟩) ((fromL ((q.drop 1).take 9)).length) ((fromL ((q.drop 1).take 9)).length), .string (⟨#[]⟩), .slice none 0 0, .string (⟨#[]⟩), .slice none 0 0]) HS21j 1 0 rfl rfl (H23.ev 28 rfl) (H23.ev 27 rfl) (by kernel_rfl) (Nat.le_of_ble_eq_true rfl) (one_l (ao_cons rfl (ao_cons rfl ao_nil))) rfl h) fun W24 HS24 => ln_ <| ?_
  clear H21 a21 HS21j
  have H25 := H23.sel [1, 4, 15, 16] rfl
  refine bn <| nx <| rl_ <| wl_ <| i_ H25 rfl (v := .int .i64 1) (dd_ari rfl (H25.ev 16 rfl) rfl rfl (by decide)) fun a26 H26 => wl_ <| p_ H26 rfl rfl fun a27 H27 => ln_ <| nx <| unr_go <| sq_ <| rl_ <| wl_ <| i_ H27 rfl (dd_cmp rfl (H27.ev 16 rfl) (H27.ev 15 rfl) (lt_t (by decide))) fun a28 H28 => ln_ <| nx <| sq_ <| ct_ H28 rfl <| wp_skip <| nx <| sq_ <| wp_block <| sq_ <| rl_ <| q_ H28 2 rfl fun a29 H29 => ln_ <| nx <| rl_ <| q_ H29 3 rfl fun a30 H30 => wl_ <| i_ H30 rfl (v := .int .i64 9) (dd_ari rfl (H30.ev 21 rfl) rfl rfl (by decide)) fun a31 H31 => wl_ <| i_ H31 rfl (v := .int .i64 10) (dd_ari rfl rfl (H31.ev 22 rfl) rfl (by decide)) fun a32 H32 => wl_ <| i_ H32 rfl (v := .slice (some ⟨g1, 10, none⟩) 22 22) (dd_slAl (l := 10) (n := 32) (sz := 1) (j := 10) rfl (H32.ev 1 rfl) (H32.ev 23 rfl) (by kernel_rfl) (by decide) rfl rfl) fun a33 H33 => ?_
  clear H23 H25 a23 H26 a26 H27 a27 H28 a28 H29 a29 H30 a30 H31 a31
  refine wl_ <| i_ H33 rfl (v := .pointer (some ⟨g1, 10, none⟩)) (dd_s2a (m := 9) (sz := 1) rfl (H33.ev 24 rfl) (by kernel_rfl) (by decide)) fun a34 H34 => wl_ <| i_ H34 rfl (v := .agg (bs ((q.drop 10).take 9))) (dd_load HS24 0 10 rfl rfl (H34.ev 25 rfl) (bs_slab hq 10 9 (by decide)) Tryd.underlying110 rfl (by rw [show (bs ((q.drop 10).take 9)).size = 9 from ((size_bs _).trans (len_take (n := 32 - 10) (len_drop hq rfl) (by decide)))]; kernel_rfl)) fun a35 H35 => ?_
  clear H32 a32 H33 a33 H34 a34
  refine wl_ <| d_ H35 rfl (R := fun v w9 => ∃ gf37, v = .agg #[.string (strB (volQ ((q.drop 10).take 9)).1), .slice (some ⟨gf37, 0, none⟩) ((fromL ((q.drop 10).take 9)).length) ((fromL ((q.drop 10).take 9)).length)] ∧ (W24.heap.size ≤ gf37) ∧ (Row w9 gf37 3 (intsV (fromL ((q.drop 10).take 9))).toArray) ∧ Below W24.heap.size W24 w9) (dc_ Tryd.func53 rfl (args1 (H35.ev 26 rfl)) (frombytes_any ((q.drop 10).take 9) W24 (len_take (n := 32 - 10) (len_drop hq rfl) (by decide))) (fun _ w9 ⟨g9, he, h1, h2, hb⟩ => ⟨_, he, g9, rfl, h1, h2, hb⟩)) ?_
  rintro _ W36 ⟨gf37, rfl, hg37, hr37, hb36⟩ a36 H36
  have HS36 := HS24.same hb36
  clear H35 a35
  have HS36j : St w noF [⟨g1, 36, bs q⟩, ⟨g13, 81, #[.string (strB (volQ ((q.drop 1).take 9)).1), .slice (some ⟨gf22, 0, none⟩) ((fromL ((q.drop 1).take 9)).length) ((fromL ((q.drop 1).take 9)).length), .string (⟨#[]⟩), .slice none 0 0, .string (⟨#[]⟩), .slice none 0 0]⟩, ⟨gf22, 3, (intsV (fromL ((q.drop 1).take 9))).toArray⟩, ⟨gf37, 3, (intsV (fromL ((q.drop 10).take 9))).toArray⟩] W36 := HS24.joins hb36 hr37 hg37
  clear HS36 hr37 hg37
  clear HS24 hb36
  refine wl_ <| i_ H36 rfl (xS 2 2 rfl (H36.ev 19 rfl) (H36.ev 20 rfl)) fun a38 H38 => wl_ <| t_ rfl (fun _ h => dd_store (cs := #[.string (strB (volQ ((q.drop 1).take 9)).1), .slice (some ⟨gf22, 0, none⟩) ((fromL ((q.drop 1).take 9)).length) ((fromL ((q.drop 1).take 9)).length), .string (strB (volQ ((q.drop 10).take 9)).1), .slice (some ⟨gf37, 0, none⟩) ((fromL ((q.drop 10).take 9)).length) ((fromL ((q.drop 10).take 9)).length), .string (⟨#[]⟩), .slice none 0 0]) HS36j 1 2 rfl rfl (H38.ev 28 rfl) (H38.ev 27 rfl) (by kernel_rfl) (Nat.le_of_ble_eq_true rfl) (one_l (ao_cons rfl (ao_cons rfl ao_nil))) rfl h) fun W39 HS39 => ln_ <| bn <| nx <| rl_ <| wl_ <| i_ H38 rfl (v := .int .i64 2) (dd_ari rfl (H38.ev 16 rfl) rfl rfl (by decide)) fun a40 H40 => wl_ <| p_ H40 rfl rfl fun a41 H41 => ln_ <| nx <| unr_go <| sq_ <| rl_ <| wl_ <| i_ H41 rfl (dd_cmp rfl (H41.ev 16 rfl) (H41.ev 15 rfl) (lt_t (by decide))) fun a42 H42 => ln_ <| nx <| sq_ <| ct_ H42 rfl <| wp_skip <| nx <| sq_ <| wp_block <| sq_ <| rl_ <| q_ H42 2 rfl fun a43 H43 => ln_ <| nx <| rl_ <| q_ H43 3 rfl fun a44 H44 => wl_ <| i_ H44 rfl (v := .int .i64 18) (dd_ari rfl (H44.ev 21 rfl) rfl rfl (by decide)) fun a45 H45 => ?_
  clear H36 a36 HS36j H38 a38 H40 a40 H41 a41 H42 a42 H43 a43
  refine wl_ <| i_ H45 rfl (v := .int .i64 19) (dd_ari rfl rfl (H45.ev 22 rfl) rfl (by decide)) fun a46 H46 => wl_ <| i_ H46 rfl (v := .slice (some ⟨g1, 19, none⟩) 13 13) (dd_slAl (l := 19) (n := 32) (sz := 1) (j := 19) rfl (H46.ev 1 rfl) (H46.ev 23 rfl) (by kernel_rfl) (by decide) rfl rfl) fun a47 H47 => wl_ <| i_ H47 rfl (v := .pointer (some ⟨g1, 19, none⟩)) (dd_s2a (m := 9) (sz := 1) rfl (H47.ev 24 rfl) (by kernel_rfl) (by decide)) fun a48 H48 => wl_ <| i_ H48 rfl (v := .agg (bs ((q.drop 19).take 9))) (dd_load HS39 0 19 rfl rfl (H48.ev 25 rfl) (bs_slab hq 19 9 (by decide)) Tryd.underlying110 rfl (by rw [show (bs ((q.drop 19).take 9)).size = 9 from ((size_bs _).trans (len_take (n := 32 - 19) (len_drop hq rfl) (by decide)))]; kernel_rfl)) fun a49 H49 => ?_
  clear H44 a44 H45 a45 H46 a46 H47 a47 H48 a48
  refine wl_ <| d_ H49 rfl (R := fun v w9 => ∃ gf51, v = .agg #[.string (strB (volQ ((q.drop 19).take 9)).1), .slice (some ⟨gf51, 0, none⟩) ((fromL ((q.drop 19).take 9)).length) ((fromL ((q.drop 19).take 9)).length)] ∧ (W39.heap.size ≤ gf51) ∧ (Row w9 gf51 3 (intsV (fromL ((q.drop 19).take 9))).toArray) ∧ Below W39.heap.size W39 w9) (dc_ Tryd.func53 rfl (args1 (H49.ev 26 rfl)) (frombytes_any ((q.drop 19).take 9) W39 (len_take (n := 32 - 19) (len_drop hq rfl) (by decide))) (fun _ w9 ⟨g9, he, h1, h2, hb⟩ => ⟨_, he, g9, rfl, h1, h2, hb⟩)) ?_
  rintro _ W50 ⟨gf51, rfl, hg51, hr51, hb50⟩ a50 H50
  have HS50 := HS39.same hb50
  clear H49 a49
  have HS50j : St w noF [⟨g1, 36, bs q⟩, ⟨g13, 81, #[.string (strB (volQ ((q.drop 1).take 9)).1), .slice (some ⟨gf22, 0, none⟩) ((fromL ((q.drop 1).take 9)).length) ((fromL ((q.drop 1).take 9)).length), .string (strB (volQ ((q.drop 10).take 9)).1), .slice (some ⟨gf37, 0, none⟩) ((fromL ((q.drop 10).take 9)).length) ((fromL ((q.drop 10).take 9)).length), .string (⟨#[]⟩), .slice none 0 0]⟩, ⟨gf22, 3, (intsV (fromL ((q.drop 1).take 9))).toArray⟩, ⟨gf37, 3, (intsV (fromL ((q.drop 10).take 9))).toArray⟩, ⟨gf51, 3, (intsV (fromL ((q.drop 19).take 9))).toArray⟩] W50 := HS39.joins hb50 hr51 hg51
  clear HS50 hr51 hg51
  clear HS39 hb50
  refine wl_ <| i_ H50 rfl (xS 2 4 rfl (H50.ev 19 rfl) (H50.ev 20 rfl)) fun a52 H52 => wl_ <| t_ rfl (fun _ h => dd_store (cs := #[.string (strB (volQ ((q.drop 1).take 9)).1), .slice (some ⟨gf22, 0, none⟩) ((fromL ((q.drop 1).take 9)).length) ((fromL ((q.drop 1).take 9)).length), .string (strB (volQ ((q.drop 10).take 9)).1), .slice (some ⟨gf37, 0, none⟩) ((fromL ((q.drop 10).take 9)).length) ((fromL ((q.drop 10).take 9)).length), .string (strB (volQ ((q.drop 19).take 9)).1), .slice (some ⟨gf51, 0, none⟩) ((fromL ((q.drop 19).take 9)).length) ((fromL ((q.drop 19).take 9)).length)]) HS50j 1 4 rfl rfl (H52.ev 28 rfl) (H52.ev 27 rfl) (by kernel_rfl) (Nat.le_of_ble_eq_true rfl) (one_l (ao_cons rfl (ao_cons rfl ao_nil))) rfl h) fun W53 HS53 => ln_ <| bn <| nx <| rl_ <| wl_ <| i_ H52 rfl (v := .int .i64 3) (dd_ari rfl (H52.ev 16 rfl) rfl rfl (by decide)) fun a54 H54 => wl_ <| p_ H54 rfl rfl fun a55 H55 => ln_ <| nx <| unr_go <| sq_ <| rl_ <| wl_ <| i_ H55 rfl (dd_cmp rfl (H55.ev 16 rfl) (H55.ev 15 rfl) (lt_f (by decide))) fun a56 H56 => ln_ <| nx <| sq_ <| cf_ H56 rfl <| wp_exit <| tx <| tx <| bx <| nx <| sq_ <| sq_ <| rl_ <| wl_ <| p_ H56 rfl rfl fun a57 H57 => wl_ <| c_ H57 rfl HS53 (dcs Tryd.func48 rfl (args1 (H57.ev 31 rfl)) (enct_any _ _ _ [volQ ((q.drop 1).take 9), volQ ((q.drop 10).take 9), volQ ((q.drop 19).take 9)] W53 (vols_row (l := volL [volQ ((q.drop 1).take 9), volQ ((q.drop 10).take 9), volQ ((q.drop 19).take 9)]) (HS53.row 1 rfl) (Nat.le_refl _) (by show 3 ≤ maxLen; decide) (get_consP (volAt_of (ints_rowI (HS53.row 2 rfl) (Nat.le_trans (fromL_len _) (by decide)) (fromL_bound _)) (Nat.le_trans (volQ_name _ (by rw [List.length_take, List.length_drop, hq]; rfl)) (by decide))) (get_consP (volAt_of (ints_rowI (HS53.row 3 rfl) (Nat.le_trans (fromL_len _) (by decide)) (fromL_bound _)) (Nat.le_trans (volQ_name _ (by rw [List.length_take, List.length_drop, hq]; rfl)) (by decide))) (get_consP (volAt_of (ints_rowI (HS53.row 4 rfl) (Nat.le_trans (fromL_len _) (by decide)) (fromL_bound _)) (Nat.le_trans (volQ_name _ (by rw [List.length_take, List.length_drop, hq]; rfl)) (by decide))) (get_nilP))))) (by decide) (small_vq (l := [(q.drop 1).take 9, (q.drop 10).take 9, (q.drop 19).take 9]))) (.tuple #[.agg (bs (encT [volQ ((q.drop 1).take 9), volQ ((q.drop 10).take 9), volQ ((q.drop 19).take 9)])), .int .i64 (encE [volQ ((q.drop 1).take 9), volQ ((q.drop 10).take 9), volQ ((q.drop 19).take 9)])])) fun W58 HS58 a58 H58 => wl_ <| p_ H58 rfl rfl fun a59 H59 => ?_
  clear H50 a50 HS50j H52 a52 H54 a54 H55 a55 H56 a56 H57 a57 HS53
  refine wl_ <| i_ H59 rfl (dd_ext rfl (H59.ev 30 rfl) rfl) fun a60 H60 => wl_ <| i_ H60 rfl (dd_ext rfl (H60.ev 30 rfl) rfl) fun a61 H61 => wl_ <| n_ H61 rfl (fun _ h => dd_new HS58 (bs (zer 32)) rfl (z := .agg (bs (zer 32))) (by kernel_rfl) rfl h) fun g6 W62 HS62 a62 H62 => wl_ <| t_ rfl (fun _ h => dd_setrow HS62 5 rfl rfl (H62.ev 6 rfl) (H62.ev 33 rfl) (by kernel_rfl) (((size_bs _).trans (length_encT _)) : (bs (encT [volQ ((q.drop 1).take 9), volQ ((q.drop 10).take 9), volQ ((q.drop 19).take 9)])).size = 32) (((size_bs _).trans (length_zer 32)) : (bs (zer 32)).size = 32) (one_bs _) h) fun W63 HS63 => wl_ <| p_ H62 rfl rfl fun a64 H64 => ln_ <| ?_
  clear H58 a58 H59 a59 H60 a60 HS58 H61 a61 HS62 H62 a62
  have H65 := H64.sel [1, 4, 6, 7] rfl
  refine nx <| sq_ <| rl_ <| wl_ <| p_ H65 rfl rfl fun a66 H66 => ?_
  clear H64 H65 a64
  by_cases hc68 : (encE [volQ ((q.drop 1).take 9), volQ ((q.drop 10).take 9), volQ ((q.drop 19).take 9)] : Int) = 0
  ·
   refine wl_ <| i_ H66 rfl (dd_cmp rfl (H66.ev 35 rfl) rfl (ne_f hc68)) fun a69 H69 => wl_ <| p_ H69 rfl rfl fun a70 H70 => wl_ <| ig H70 (wg_ H70 rfl rfl rfl rfl) rfl (v := .agg (bs (encT [volQ ((q.drop 1).take 9), volQ ((q.drop 10).take 9), volQ ((q.drop 19).take 9)]))) (dd_load HS63 5 0 rfl rfl (H70.ev 6 rfl) (slab_whole _) Tryd.underlying36 rfl (by rw [show (bs (encT [volQ ((q.drop 1).take 9), volQ ((q.drop 10).take 9), volQ ((q.drop 19).take 9)])).size = 32 from ((size_bs _).trans (length_encT _))]; kernel_rfl)) fun a71 H71 => wl_ <| ig H71 (wg_ H71 rfl rfl rfl rfl) rfl (v := .agg (bs q)) (dd_load HS63 0 0 rfl rfl (H71.ev 1 rfl) (slab_whole _) Tryd.underlying36 rfl (by rw [show (bs q).size = 32 from ((size_bs _).trans hq)]; kernel_rfl)) fun a72 H72 => ?_
   clear H66 a66 H69 a69 H70 a70 H71 a71
   cases hb74 : decide (encT [volQ ((q.drop 1).take 9), volQ ((q.drop 10).take 9), volQ ((q.drop 19).take 9)] = q)
   case false =>
    refine wl_ <| ig H72 (wg_ H72 rfl rfl rfl rfl) rfl (v := .bool true) (dd_nea (b := false) rfl (H72.ev 38 rfl) (H72.ev 39 rfl) (by kernel_rfl) (fun w => by have h9 := eql_blk (encT [volQ ((q.drop 1).take 9), volQ ((q.drop 10).take 9), volQ ((q.drop 19).take 9)]) q (length_encT _) hq w; rw [hb74] at h9; exact h9) rfl) fun a75 H75 => wl_ <| p_ H75 rfl rfl fun a76 H76 => ln_ <| nx <| ct_ H76 rfl <| sq_ <| rl_ <| q_ H76 2 rfl fun a77 H77 => ln_ <| nx <| wp_ret <| tr <| ret_run H77.env0 (res_tt Tryd.results44 (H77.get 2 rfl) (H77.get 3 rfl)) <| ?_
    clear H72 a72 H75 a75 H76 a76
    have hbad := okD_no (q := q) (fun ⟨_, h2, h3⟩ => by exact of_decide_eq_false hb74 (hQ ▸ h3))
    exact ⟨_, by rw [(dec_bad hbad).2], by rw [(dec_bad hbad).1]; exact OV.nil _ _, HS63.below⟩
   case true =>
    refine wl_ <| ig H72 (wg_ H72 rfl rfl rfl rfl) rfl (v := .bool false) (dd_nea (b := true) rfl (H72.ev 38 rfl) (H72.ev 39 rfl) (by kernel_rfl) (fun w => by have h9 := eql_blk (encT [volQ ((q.drop 1).take 9), volQ ((q.drop 10).take 9), volQ ((q.drop 19).take 9)]) q (length_encT _) hq w; rw [hb74] at h9; exact h9) rfl) fun a78 H78 => wl_ <| p_ H78 rfl rfl fun a79 H79 => ln_ <| nx <| cf_ H79 rfl <| wp_skip <| nx <| sq_ <| rl_ <| q_ H79 3 rfl fun a80 H80 => ln_ <| nx <| wp_ret <| ret_run H80.env0 (res_tt Tryd.results44 (H80.get 2 rfl) (H80.get 3 rfl)) <| ?_
    clear H72 a72 H78 a78 H79 a79
    have hok := okD_yes (q := q) (by rw [h0]; decide) (by rw [hQ]; exact encE_z.1 hc68) (by rw [hQ]; exact of_decide_eq_true hb74)
    exact ⟨_, by rw [(dec_good hok).2], by rw [(dec_good hok).1, hQ]; exact ⟨_, ⟨rfl, .inr ⟨_, 3, _, rfl, st_fresh HS63 1 rfl, HS63.row 1 rfl, Nat.le_refl _, by decide, rfl, rfl⟩⟩, cellsV_cons (.inr ⟨own_rowI (HS63.row 2 rfl) (st_fresh HS63 2 rfl) (Nat.le_trans (fromL_len _) (by decide)), fromL_bound _⟩) (Nat.le_trans (volQ_name _ (by rw [List.length_take, List.length_drop, hq]; rfl)) (by decide)) (cellsV_cons (.inr ⟨own_rowI (HS63.row 3 rfl) (st_fresh HS63 3 rfl) (Nat.le_trans (fromL_len _) (by decide)), fromL_bound _⟩) (Nat.le_trans (volQ_name _ (by rw [List.length_take, List.length_drop, hq]; rfl)) (by decide)) (cellsV_cons (.inr ⟨own_rowI (HS63.row 4 rfl) (st_fresh HS63 4 rfl) (Nat.le_trans (fromL_len _) (by decide)), fromL_bound _⟩) (Nat.le_trans (volQ_name _ (by rw [List.length_take, List.length_drop, hq]; rfl)) (by decide)) (cellsV_nil _ _)))⟩, HS63.below⟩
  ·
   refine wl_ <| i_ H66 rfl (dd_cmp rfl (H66.ev 35 rfl) rfl (ne_t hc68)) fun a81 H81 => wl_ <| p_ H81 rfl rfl fun a82 H82 => wl_ <| k_ H82 (wg_ H82 rfl rfl rfl rfl) rfl fun a83 H83 => wl_ <| k_ H83 (wg_ H83 rfl rfl rfl rfl) rfl fun a84 H84 => wl_ <| k_ H84 (wg_ H84 rfl rfl rfl rfl) rfl fun a85 H85 => wl_ <| p_ H85 rfl rfl fun a86 H86 => ln_ <| nx <| ct_ H86 rfl <| sq_ <| rl_ <| q_ H86 2 rfl fun a87 H87 => ln_ <| nx <| wp_ret <| tr <| ret_run H87.env0 (res_tt Tryd.results44 (H87.get 2 rfl) (H87.get 3 rfl)) <| ?_
   clear H66 a66 H81 a81 H82 a82 H83 a83 H84 a84 H85 a85 H86 a86
   have hbad := okD_no (q := q) (fun ⟨_, h2, h3⟩ => by exact hc68 (encE_z.2 (hQ ▸ h2)))
   exact ⟨_, by rw [(dec_bad hbad).2], by rw [(dec_bad hbad).1]; exact OV.nil _ _, HS63.below⟩
set_option maxRecDepth 10000 in
set_option maxHeartbeats 1600000 in
theorem dect4 (q : List (BitVec 8)) (w : World) (hq : q.length = 32) (h0 : (3 : Int) < bd (q.getD 0 0#8)) :
    Calls Tryd.prog 44 #[.agg (bs q)] w fun e w' => ∃ v, e = .returned (.tuple #[v, .int .i64 (decE q)]) ∧ OV w.heap.size w' v (volL (decLT q)) ∧ Below w.heap.size w w' := by
  have HS := St.nil w noF
  have hbad := okD_no (q := q) (fun ⟨h1, _, _⟩ => by unfold bd at h0; omega)
  refine enter_en Tryd.func44 rfl Tryd.ntmps44 (Nat.le_of_ble_eq_true rfl) fun a0 (HA0 : En 43 [(0, .agg (bs q))] a0) => ?_
  refine sq_ <| rl_ <| wl_ <| n_ HA0 rfl (fun _ h => dd_box HS rfl (HA0.ev 0 rfl) (cs := (bs q)) rfl h) fun g1 W1 HS1 a1 H1 => q_ H1 2 rfl fun a2 H2 => ln_ <| nx <| sq_ <| sq_ <| rl_ <| wl_ <| i_ H2 rfl (xA 32 1 0 rfl (H2.ev 1 rfl) rfl) fun a3 H3 => wl_ <| i_ H3 rfl (dd_get HS1 0 0 rfl rfl (H3.ev 8 rfl) (bs_get hq 0 (by decide)) Tryd.underlying5 rfl) fun a4 H4 => wl_ <| i_ H4 rfl (dd_cmp rfl (H4.ev 9 rfl) rfl (gt_t h0)) fun a5 H5 => ln_ <| nx <| ct_ H5 rfl <| sq_ <| rl_ <| q_ H5 2 rfl fun a6 H6 => ln_ <| nx <| wp_ret <| tr <| ret_run H6.env0 (res_tt Tryd.results44 (H6.get 2 rfl) (H6.get 3 rfl)) <| ?_
  clear HS HA0 a0 H1 a1 H2 a2 H3 a3 H4 a4 H5 a5
  exact ⟨_, by rw [(dec_bad hbad).2], by rw [(dec_bad hbad).1]; exact OV.nil _ _, HS1.below⟩
theorem dect_any (q : List (BitVec 8)) (w : World) (hq : q.length = 32) :
    Calls Tryd.prog 44 #[.agg (bs q)] w fun e w' => ∃ v, e = .returned (.tuple #[v, .int .i64 (decE q)]) ∧ OV w.heap.size w' v (volL (decLT q)) ∧ Below w.heap.size w w' := by
  have hb := bd_lo (q.getD 0 0#8)
  by_cases h : (3 : Int) < bd (q.getD 0 0#8)
  · exact dect4 q w hq h
  have e : q.getD 0 0#8 = BitVec.ofInt 8 (bd (q.getD 0 0#8)) := bd_inj (bd_of _ hb (by omega))
  rcases (by omega : bd (q.getD 0 0#8) = 0 ∨ bd (q.getD 0 0#8) = 1 ∨ bd (q.getD 0 0#8) = 2 ∨ bd (q.getD 0 0#8) = 3) with h | h | h | h <;> rw [h] at e
  · exact dect0 q w hq e
  · exact dect1 q w hq e
  · exact dect2 q w hq e
  · exact dect3 q w hq e
end Go.Proofs.YtnmaplgodimohaaDoor

/- When volumes take just as many blocks as they name. No function of the program is named here. -/
set_option maxRecDepth 4000
namespace Go.Proofs.YtnmaplgodimohaaDoor
open Go Go.RowKit
end Go.Proofs.YtnmaplgodimohaaDoor

/- Tables and their blocks: each is told by the other; tables turned about. No function of the program is named here. -/
set_option maxRecDepth 4000
namespace Go.Proofs.YtnmaplgodimohaaDoor
open Go Go.RowKit
theorem okD_parts {q : List (BitVec 8)} (h : okD q = true) : goodT (decLT q) = true ∧ encT (decLT q) = q := by
  rw [(dec_good h).1]
  unfold okD at h
  simp only [Bool.and_eq_true, decide_eq_true_eq] at h
  exact h.2
end Go.Proofs.YtnmaplgodimohaaDoor

/- The document's tables: Find, Good. -/
set_option maxRecDepth 4000
namespace Go.Proofs.YtnmaplgodimohaaDoor
open Go Go.RowKit
theorem ints_atB {w : World} {A : Option Addr} {b o n c : Nat} {L : List Int} (h : IntsAt w (.slice A n c) L) (hA : A = some ⟨b, o, none⟩) (k : Nat) (hk : k < n) : w.cell? ⟨b, o + k, none⟩ = some (.int .i64 (L.getD k 0)) := by
  subst hA; exact ints_at h k hk
end Go.Proofs.YtnmaplgodimohaaDoor

/- The document's tables: Encode. -/
set_option maxRecDepth 4000
namespace Go.Proofs.YtnmaplgodimohaaDoor
open Go Go.RowKit
end Go.Proofs.YtnmaplgodimohaaDoor

/- Volumes appended to those of one's own, in a round of a loop. No function of the program is named here. -/
set_option maxRecDepth 4000
namespace Go.Proofs.YtnmaplgodimohaaDoor
open Go Go.RowKit
/- blocks that a growing slice does not lie in stay as they are -/
theorem st_grown {w0 w w' : World} {S : List Blk} {v : Value} (h : St w0 noF S w) (hg : w.grownBy w' v.ownBlock) (hv : ∀ g, v.ownBlock = some g → w0.heap.size ≤ g ∧ ∀ r ∈ S, r.g ≠ g) : St w0 noF S w' :=
  ⟨h.chg.grown hg (fun j e => .inr (hv j e).1), fun j r hj => (hg.block r.g (h.rows j r hj).lt fun e => (hv r.g e.symm).2 r (List.mem_of_getElem? hj) rfl).trans (h.rows j r hj), h.apart, h.own⟩
theorem St.first {w0 w1 w : World} {S : List Blk} (h : St w1 noF S w) (hb : Below w0.heap.size w0 w1) : St w0 noF S w :=
  ⟨⟨h.chg.os.trans hb.os, h.chg.tape.trans hb.tape, h.chg.output.trans hb.output, Nat.le_trans hb.size h.chg.size, fun k hk hf => (h.chg.block k (Nat.lt_of_lt_of_le hk hb.size) hf).trans (hb.block k hk)⟩, h.rows, h.apart, fun k r hk => .inr (Nat.le_trans hb.size ((h.own k r hk).resolve_left fun e => e))⟩
theorem inV_own {B : Nat} {W : World} {g n c : Nat} {L : List Int} (hn : L.length = n) (h : W.ownsRow B 3 1 (.slice (some ⟨g, 0, none⟩) n c) n (intsV L)) (hb : ∀ x ∈ L, -9223372036854775808 ≤ x ∧ x < 9223372036854775808) : InV B W (some ⟨g, 0, none⟩) c L := by
  subst hn; exact .inr ⟨h, hb⟩
theorem vol_litM {B : Nat} {W : World} {g n : Nat} {s : ByteArray} {A : Option Addr} {c : Nat} {L : List Int} (hn : L.length = n) (hr : Row W g 81 #[.string s, .slice A n c]) (hi : InV B W A c L) (hs : s.size ≤ maxLen) : VolsIn B W (some ⟨g, 0, none⟩) 1 1 [(s, L)] := by
  subst hn; exact vol_lit hr hi hs
end Go.Proofs.YtnmaplgodimohaaDoor

/- The document's tables: Decode. -/
set_option maxRecDepth 4000
namespace Go.Proofs.YtnmaplgodimohaaDoor
open Go Go.RowKit
end Go.Proofs.YtnmaplgodimohaaDoor

/- Tables: the law wakes. -/
set_option maxRecDepth 4000
namespace Go.Proofs.YtnmaplgodimohaaDoor
open Go Go.RowKit
theorem wk_z2 : decLT (zer 32) = [] := by decide +kernel
theorem decLT_len (q : List (BitVec 8)) : (decLT q).length ≤ 3 := by
  unfold decLT
  split
  · rename_i h; exact (goodT_parts (by rw [← (dec_good h).1]; exact (okD_parts h).1)).1
  · exact Nat.zero_le _
theorem decLT_small (q : List (BitVec 8)) : ∀ x ∈ decLT q, x.2.length ≤ 1000000 := fun x hx => by
  unfold decLT decQ at hx
  split at hx
  · obtain ⟨j, _, rfl⟩ := List.mem_map.1 hx
    exact Nat.le_trans (fromL_len _) (by decide)
  · cases hx
end Go.Proofs.YtnmaplgodimohaaDoor

/- What is asked, as writes of blocks, plainly. No function of the program is named here. -/
set_option maxRecDepth 4000
namespace Go.Proofs.YtnmaplgodimohaaDoor
open Go Go.RowKit
abbrev Pt := Int × List (BitVec 8)
def volsOf (l : List Tv) (i : Int) : List Int := match l[i.toNat]? with
  | some x => x.2
  | none => []
def placeE (l : List Tv) (q : List (BitVec 8)) (x : Int) : Int := if findI q l < 0 then 16 else if x < 0 ∨ ((volsOf l (findI q l)).length : Int) ≤ x then 17 else 0
def placeI (l : List Tv) (q : List (BitVec 8)) (x : Int) : Int := if findI q l < 0 then 0 else if x < 0 ∨ ((volsOf l (findI q l)).length : Int) ≤ x then 0 else (volsOf l (findI q l)).getD x.toNat 0
def writeP (l : List Tv) (q : List (BitVec 8)) (x : Int) (d : List (BitVec 8)) : List Pt := if placeE l q x = 0 then [(placeI l q x, d)] else []
def mayE (l : List Tv) (q : List (BitVec 8)) (n : Int) : Int := if goodN q = false then 11 else if 0 ≤ findI q l then 16 else if n < 1 ∨ 4 < n then 17 else if (3 : Int) ≤ l.length then 18 else 0
def takeT (l : List Tv) (n : Int) : List Int := takeV (usedV (volL l)) n
def makeE (l : List Tv) (q : List (BitVec 8)) (n : Int) : Int := if mayE l q n = 0 then takeE (usedV (volL l)) n else mayE l q n
def makeL (l : List Tv) (q : List (BitVec 8)) (n : Int) : List Tv := l ++ [(q, takeT l n)]
def makeP (l : List Tv) (q : List (BitVec 8)) (n : Int) : List Pt := if makeE l q n = 0 then (takeT l n).map (fun b => (b, zer 32)) ++ [(0, encT (makeL l q n))] else []
def goneE (l : List Tv) (q : List (BitVec 8)) : Int := if findI q l < 0 then 16 else 0
def goneL (l : List Tv) (q : List (BitVec 8)) : List Tv := l.eraseIdx (findI q l).toNat
def goneP (l : List Tv) (q : List (BitVec 8)) : List Pt := if findI q l < 0 then [] else [(0, encT (goneL l q))]
theorem findI_is (q : List (BitVec 8)) (l : List Tv) : findI q l = -1 ∨ (0 ≤ findI q l ∧ findI q l < l.length) := by
  unfold findI
  cases h : findT q l with
  | none => exact .inl rfl
  | some i =>
    refine .inr ⟨by simp, ?_⟩
    unfold findT at h
    have := (List.findIdx?_eq_some_iff_getElem.1 h).1
    simp only; omega
section
variable {l : List Tv} {q d : List (BitVec 8)} {x : Int} {k : Nat} {p : List (BitVec 8)} {L : List Int}
theorem volsOf_is (h : l[(findI q l).toNat]? = some (p, L)) : volsOf l (findI q l) = L := by unfold volsOf; rw [h]
theorem place_16 (h : findI q l < 0) : placeE l q x = 16 ∧ placeI l q x = 0 := ⟨if_pos h, if_pos h⟩
theorem place_17 (h : ¬ findI q l < 0) (hg : l[(findI q l).toNat]? = some (p, L)) (hx : x < 0 ∨ (L.length : Int) ≤ x) : placeE l q x = 17 ∧ placeI l q x = 0 := by
  unfold placeE placeI
  rw [if_neg h, if_neg h, volsOf_is hg, if_pos hx, if_pos hx]
  exact ⟨rfl, rfl⟩
theorem place_17n (h : ¬ findI q l < 0) (hx : x < 0) : placeE l q x = 17 ∧ placeI l q x = 0 := by
  unfold placeE placeI
  rw [if_neg h, if_neg h, if_pos (.inl hx), if_pos (.inl hx)]
  exact ⟨rfl, rfl⟩
theorem place_0 (h : ¬ findI q l < 0) (hg : l[(findI q l).toNat]? = some (p, L)) (hx : ¬ (x < 0 ∨ (L.length : Int) ≤ x)) : placeE l q x = 0 ∧ placeI l q x = L.getD x.toNat 0 := by
  unfold placeE placeI
  rw [if_neg h, if_neg h, volsOf_is hg, if_neg hx, if_neg hx]
  exact ⟨rfl, rfl⟩
end
end Go.Proofs.YtnmaplgodimohaaDoor

/- Items that wait, plainly, and as they lie in memory. No function of the program is named here. -/
set_option maxRecDepth 4000
namespace Go.Proofs.YtnmaplgodimohaaDoor
open Go Go.RowKit
abbrev It := Int × Int × List (BitVec 8) × Int × List (BitVec 8)
def putsE (qb : List (BitVec 8)) (x : It) : Int := if x.2.1 = 1 then placeE (decLT qb) x.2.2.1 x.2.2.2.1 else if x.2.1 = 2 then makeE (decLT qb) x.2.2.1 x.2.2.2.1 else if x.2.1 = 3 then goneE (decLT qb) x.2.2.1 else 1
def putsP (qb : List (BitVec 8)) (x : It) : List Pt := if x.2.1 = 1 then writeP (decLT qb) x.2.2.1 x.2.2.2.1 x.2.2.2.2 else if x.2.1 = 2 then makeP (decLT qb) x.2.2.1 x.2.2.2.1 else if x.2.1 = 3 then goneP (decLT qb) x.2.2.1 else []
def wfI (l : List It) : Prop := ∀ x ∈ l, x.2.2.2.2.length = 32
def itcell (x : It) : List Value := [[.int .i64 x.1], [.int .i64 x.2.1], [.string (strB x.2.2.1)], [.int .i64 x.2.2.2.1], bytesV x.2.2.2.2].flatten
def itemsL (l : List It) : List Value := (l.map itcell).flatten
theorem len_itcell {x : It} (h : x.2.2.2.2.length = 32) : (itcell x).length = 36 := by unfold itcell; simp [len_bytesV, h]
theorem items_app (l m : List It) : itemsL (l ++ m) = itemsL l ++ itemsL m := by unfold itemsL; rw [List.map_append, List.flatten_append]
theorem items_one (x : It) : itemsL [x] = itcell x := by unfold itemsL; simp
theorem len_items {l : List It} {n : Nat} (hw : wfI l) (hn : l.length = n) : (itemsL l).length = n * 36 := by
  subst hn
  induction l with
  | nil => rfl
  | cons x l ih =>
    have h1 := hw x (List.mem_cons_self ..)
    rw [show x :: l = [x] ++ l from rfl, items_app, List.length_append, items_one, len_itcell h1, ih fun y hy => hw y (List.mem_cons_of_mem _ hy), List.length_append]
    simp only [List.length_singleton]; omega
theorem one_itcell (x : It) : ∀ v ∈ itcell x, Value.oneCell' v = true := fun v hv => by
  unfold itcell at hv
  simp only [List.flatten_cons, List.flatten_nil, List.append_nil, List.mem_append, List.mem_singleton] at hv
  rcases hv with rfl | rfl | rfl | rfl | h
  · rfl
  · rfl
  · rfl
  · rfl
  · exact one_bytesV _ v h
theorem one_items (l : List It) : ∀ v ∈ itemsL l, Value.oneCell' v = true := fun v hv => by
  obtain ⟨c, hc, hv⟩ := List.mem_flatten.1 hv
  obtain ⟨x, _, rfl⟩ := List.mem_map.1 hc
  exact one_itcell x v hv
theorem wfI_nil : wfI [] := fun x h => by cases h
theorem wfI_app {l m : List It} (h : wfI l) (k : wfI m) : wfI (l ++ m) := fun x hx => (List.mem_append.1 hx).elim (h x) (k x)
/- a slice that reads as these items -/
structure ItemsAt (w : World) (A : Option Addr) (n c : Nat) (X : List It) : Prop where
  len : X.length = n
  cap : n ≤ c
  wf : wfI X
  at_ : n ≠ 0 → ∃ b o, A = some ⟨b, o, none⟩ ∧ CAt w b o (itemsL X)
theorem ItemsAt.call {w w' : World} {A : Option Addr} {n c : Nat} {X : List It} (h : ItemsAt w A n c X) (hb : Below w.heap.size w w') : ItemsAt w' A n c X :=
  ⟨h.len, h.cap, h.wf, fun hn => by obtain ⟨b, o, h1, h2⟩ := h.at_ hn; exact ⟨b, o, h1, h2.call hb⟩⟩
theorem items_nil (w : World) (A : Option Addr) (c : Nat) : ItemsAt w A 0 c [] := ⟨rfl, Nat.zero_le _, wfI_nil, fun h => absurd rfl h⟩
theorem items_own {w : World} {g c n : Nat} {t : TypeId} {cb : Array Value} {X : List It} (h : Row w g t cb) (O : OwnC cb c n 36 (itemsL X)) (hn : X.length = n) (hw : wfI X) : ItemsAt w (some ⟨g, 0, none⟩) n c X := ⟨hn, O.le, hw, fun _ => ⟨g, 0, rfl, cat_own h O⟩⟩
theorem items_row {w : World} {g n : Nat} {t : TypeId} {cs : Array Value} {X : List It} (h : Row w g t cs) (e : cs.toList = itemsL X) (hn : X.length = n) (hw : wfI X) : ItemsAt w (some ⟨g, 0, none⟩) n n X := ⟨hn, Nat.le_refl _, hw, fun _ => ⟨g, 0, rfl, e ▸ cat_row h⟩⟩
section
variable {w : World} {b o k : Nat} {l : List It} {x : It}
theorem cat_item (h : CAt w b o (itemsL l)) (hw : wfI l) (hx : l[k]? = some x) : CAt w b (o + k * 36) (itcell x) := by
  have hk := (List.getElem?_eq_some_iff.1 hx).1
  have e : itemsL l = itemsL (l.take k) ++ (itcell x ++ itemsL (l.drop (k + 1))) := by
    conv => lhs; rw [← List.take_append_drop k l, List.drop_eq_getElem_cons hk]
    rw [(List.getElem?_eq_some_iff.1 hx).2, items_app, show x :: l.drop (k + 1) = [x] ++ l.drop (k + 1) from rfl, items_app, items_one]
  rw [e] at h
  exact (h.post (len_items (n := k) (fun y hy => hw y (List.mem_of_mem_take hy)) (by rw [List.length_take]; omega))).pre
theorem item_all (h : CAt w b o (itemsL l)) (hw : wfI l) (hx : l[k]? = some x) : w.rangeAt b (o + k * 36) (catA [[.int .i64 x.1], [.int .i64 x.2.1], [.string (strB x.2.2.1)], [.int .i64 x.2.2.2.1], bytesV x.2.2.2.2]).toList := (cat_item h hw hx).at_
theorem item_nm (h : CAt w b o (itemsL l)) (hw : wfI l) (hx : l[k]? = some x) : w.cell? ⟨b, o + k * 36 + 2, none⟩ = some (.string (strB x.2.2.1)) := (cat_item h hw hx).at_ 2 _ rfl
theorem item_id (h : CAt w b o (itemsL l)) (hw : wfI l) (hx : l[k]? = some x) : w.cell? ⟨b, o + k * 36, none⟩ = some (.int .i64 x.1) := (cat_item h hw hx).at_ 0 _ rfl
end
end Go.Proofs.YtnmaplgodimohaaDoor

/- An item as an argument: opened. No function of the program is named here. -/
set_option maxRecDepth 4000
namespace Go.Proofs.YtnmaplgodimohaaDoor
open Go Go.ChangeShapes Go.WideShapes Go.ChangeAt Go.RowKit
def rdItm : Rd (Int × Int × ByteArray × Int × List (BitVec 8)) := rdMap (fun x => (x.1, x.2.1, x.2.2.1, x.2.2.2.1, x.2.2.2.2.1)) (rdCons 1 (rdInt .i64) (rdCons 1 (rdInt .i64) (rdCons 1 rdStr (rdCons 1 (rdInt .i64) (rdCons 32 (rdRow 32) rdNil)))))
theorem cellsQI : Tryd.prog.cellsOf 3 = 1 := by kernel_rfl
theorem cellsQS : Tryd.prog.cellsOf 9 = 1 := by kernel_rfl
theorem cellsQB : Tryd.prog.cellsOf 36 = 32 := by kernel_rfl
theorem opens_itm : Opens Tryd.prog 40 rdItm :=
  opens_map (opens_struct Tryd.underlying40 (by kernel_rfl) (opensF_cons rfl cellsQI (opens_int Tryd.underlying3) (opensF_cons rfl cellsQI (opens_int Tryd.underlying3) (opensF_cons rfl cellsQS (opens_str Tryd.underlying9) (opensF_cons rfl cellsQI (opens_int Tryd.underlying3) (opensF_cons rfl cellsQB (opens_row Tryd.underlying36 Tryd.underlying5 (by kernel_rfl) cellsQB) opensF_nil))))))
end Go.Proofs.YtnmaplgodimohaaDoor

/- slices.Concat of two slices of items. -/
set_option maxRecDepth 4000
namespace Go.Proofs.YtnmaplgodimohaaDoor
open Go Go.RowKit
def zitm : Array Value := catA [[.int .i64 0], [.int .i64 0], [.string ⟨#[]⟩], [.int .i64 0], bytesV (zer 32)]
theorem info_itm : (Tryd.prog.info? 40).map (fun i => (i.zero, i.size, i.bytes)) = some (some (.agg zitm), 36, 72) := by kernel_rfl
theorem size_zitm : zitm.size = 36 := by kernel_rfl
theorem run_zerosQ (w : World) (ty : TypeId) (m : Nat) (h0 : 0 < m) (hm : m ≤ 1000000) :
    (Builtin.append_ #[25, 3] ty #[.slice none 0 0, .int .i64 (m : Int)]).run Tryd.prog w =
      .ok (.slice (some ⟨w.heap.size, 0, none⟩) m (grownCap w m 0 40)) (w.drew.alloc (.cells (Builtin.zeroCells zitm m ++ Builtin.zeroCells zitm (grownCap w m 0 40 - m)) 40)) := by
  obtain ⟨i, hi, hz, hs, hby⟩ := info_parts info_itm
  have hw : IntKind.i64.wrap (m : Int) = (m : Int) := i64_id _ (by omega) (by omega)
  have h48 : ¬ (281474976710656 < (m : Int) * 72) := by omega
  have hn : m ≠ 0 := by omega
  have h63' : ¬ (9223372036854775807 < (m : Int)) := by omega
  have h48' : ¬ (281474976710656 < Builtin.nextslicecap m 0 * 72) := by rw [nextslicecap_zero h0]; omega
  generalize zitm = Z at *
  simp [Builtin.append_, run_underlying Tryd.underlying25, run_underlying Tryd.underlying3, sizeOf, typeInfo, zeroValue, hi, hz, hs, hby, hw, asInt, asIntOf, h48, hn, h63', h48', Question.forced, run_firstCells_none, newRow, grownCap, Value.cells]
  rw [if_neg (by omega), if_neg (by omega)]
theorem wpl_zerosQ {w : World} {ops : Array Oper} {rest : List Oper} {o : Oper} {a : Act} {Q : Exit → Act → World → Prop} (hgd : o.guard = none) (s x : Operand)
    (ho : o.op = .call { callee := .builtin .append, args := #[s, x], argTypes := #[25, 3] }) (hs : a.eval s = .slice none 0 0) (m : Nat) (hx : a.eval x = .int .i64 (m : Int)) (h0 : 0 < m) (hm : m ≤ 1000000)
    (h : ∀ cap w', m ≤ cap → w'.ownsRow w.heap.size 40 36 (.slice (some ⟨w.heap.size, 0, none⟩) 0 cap) 0 [] → Below w.heap.size w w' → wpList Tryd.prog ops Q rest (a.put o.dst (.slice (some ⟨w.heap.size, 0, none⟩) m cap)) w') : wpList Tryd.prog ops Q (o :: rest) a w := by
  refine wpList_plain hgd fun K hK => ?_
  unfold Oper.wp execOp
  simp only [ho, resolve, invoke, builtin, Sem.run_bind, Sem.run_pure, Result.andThen_ok, List.map_toArray, List.map_cons, List.map_nil, hs, hx, run_zerosQ w o.type m h0 hm]
  have hge := grownCap_ge w m 0 40
  refine hK _ _ (h _ _ hge ⟨rfl, .inr ⟨w.heap.size, _, _, rfl, Nat.le_refl _, heap_alloc_new w.drew _, Nat.zero_le _, grownCap_le_maxLen w m 0 40 (by unfold maxLen; omega), ?_, rfl⟩⟩ (((Below.refl _ _).drew).alloc (Nat.le_refl _) _))
  rw [Array.size_append, size_zeroCells, size_zeroCells, size_zitm]; omega
set_option maxHeartbeats 800000 in
theorem growQ_any (m : Nat) (w : World) (h3 : 0 < m) (hm : m ≤ 1000000) :
    Calls Tryd.prog 30 #[.slice none 0 0, .int .i64 (m : Int)] w fun e w' => ∃ g c cb, e = .returned (.slice (some ⟨g, 0, none⟩) 0 c) ∧ w.heap.size ≤ g ∧ Row w' g 40 cb ∧ OwnC cb c 0 36 [] ∧ Below w.heap.size w w' := by
  have hw : IntKind.i64.wrap (m : Int) = (m : Int) := i64_id _ (by omega) (by omega)
  have h1 : decide ((m : Int) < 0) = false := decide_eq_false (by omega)
  have h2 : decide (0 < (m : Int)) = true := decide_eq_true (by omega)
  go_enter Tryd.func30, Tryd.ntmps30
  go_wp2_with (at_builtin; refine wpl_zerosQ rfl (.tmp 20) (.tmp 21) rfl rfl m rfl h3 hm ?_; intro cap w4 hcap own1 hb4; have HO := Lib.hid own1; have HB := Lib.hid hb4; clear own1 hb4)
  go_ret
  obtain ⟨g, c, cb, e, h4, h5, h6⟩ := ownc_of HO.out (fun e => by cases e)
  injection e with e1 _ e2
  injection e1 with e1
  injection e1 with e1 _ _
  subst e1 e2
  exact ⟨_, _, cb, rfl, h4, h5, h6, HB.out⟩
set_option maxHeartbeats 800000 in
theorem concatQ_any (g : Nat) (A1 A2 : Option Addr) (n1 c1 n2 c2 : Nat) (X1 X2 : List It) (w : World) (hr : Row w g 25 #[.slice A1 n1 c1, .slice A2 n2 c2]) (h1 : ItemsAt w A1 n1 c1 X1) (h2 : ItemsAt w A2 n2 c2 X2) (h0 : 0 < n1 + n2) (hm1 : n1 ≤ 1000) (hm2 : n2 ≤ 1000) :
    Calls Tryd.prog 23 #[.slice (some ⟨g, 0, none⟩) 2 2] w fun x w' => ∃ g c cb, x = .returned (.slice (some ⟨g, 0, none⟩) (n1 + n2) c) ∧ w.heap.size ≤ g ∧ Row w' g 40 cb ∧ OwnC cb c (n1 + n2) 36 (itemsL (X1 ++ X2)) ∧ Below w.heap.size w w' := by
  have HS := St.nil w noF
  have HR : ∀ W, Below w.heap.size w W → Row W g 25 #[.slice A1 n1 c1, .slice A2 n2 c2] := fun W hb => hr.call hb
  have H1 : ∀ W, Below w.heap.size w W → ItemsAt W A1 n1 c1 X1 := fun W hb => h1.call hb
  have H2 : ∀ W, Below w.heap.size w W → ItemsAt W A2 n2 c2 X2 := fun W hb => h2.call hb
  refine enter_en Tryd.func23 rfl Tryd.ntmps23 (Nat.le_of_ble_eq_true rfl) fun a0 (HA0 : En 36 [(0, .slice (some ⟨g, 0, none⟩) 2 2)] a0) => ?_
  refine sq_ <| rl_ <| wl_ <| p_ HA0 rfl rfl fun _ H1 => ln_ <| nx <| sq_ <| rl_ <| wl_ <| p_ H1 rfl rfl fun _ H2 => ln_ <| nx <| sq_ <| sq_ <| rl_ <| wl_ <| p_ H2 rfl rfl fun _ H3 => wl_ <| i_ H3 rfl (v := .int .i64 2) (dd_len rfl (H3.ev 9 rfl) Tryd.underlying71) fun _ H4 => wl_ <| p_ H4 rfl rfl fun _ H5 => ln_ <| nx <| wp_block <| wp_unr 3 <| unr_go <| sq_ <| rl_ <| wl_ <| i_ H5 rfl (dd_cmp rfl (H5.ev 11 rfl) (H5.ev 10 rfl) (lt_t (by decide))) fun _ H6 => ln_ <| nx <| sq_ <| ct_ H6 rfl <| wp_skip <| nx <| sq_ <| wp_block <| sq_ <| rl_ <| wl_ <| i_ H6 rfl (xS 1 0 rfl (H6.ev 9 rfl) (H6.ev 11 rfl)) fun _ H7 => wl_ <| i_ H7 rfl (dd_getR (HR _ HS.below) rfl (H7.ev 13 rfl) rfl Tryd.underlying25 rfl) fun _ H8 => ?_
  clear HA0 H1 H2 H3 H4 H5 H6
  refine wl_ <| p_ H8 rfl rfl fun _ H9 => ln_ <| nx <| sq_ <| rl_ <| q_ H9 2 rfl fun _ H10 => wl_ <| i_ H10 rfl (v := .int .i64 n1) (dd_len rfl (H10.ev 16 rfl) Tryd.underlying25) fun _ H11 => wl_ <| i_ H11 rfl (v := .int .i64 n1) (dd_ari rfl (H11.ev 15 rfl) (H11.ev 17 rfl) rfl (by rw [i64_id _ (by omega) (by omega)]; omega)) fun _ H12 => wl_ <| p_ H12 rfl rfl fun _ H13 => ln_ <| nx <| sq_ <| rl_ <| wl_ <| p_ H13 rfl rfl fun _ H14 => wl_ <| i_ H14 rfl (dd_cmp rfl (H14.ev 19 rfl) rfl (lt_f (by omega))) fun _ H15 => ln_ <| nx <| cf_ H15 rfl <| wp_skip <| bn <| nx <| rl_ <| wl_ <| i_ H15 rfl (v := .int .i64 1) (dd_ari rfl (H15.ev 11 rfl) rfl rfl (by decide)) fun _ H16 => ?_
  clear H7 H8 H9 H10 H11 H12 H13 H14
  refine wl_ <| p_ H16 rfl rfl fun _ H17 => ln_ <| nx <| unr_go <| sq_ <| rl_ <| wl_ <| i_ H17 rfl (dd_cmp rfl (H17.ev 11 rfl) (H17.ev 10 rfl) (lt_t (by decide))) fun _ H18 => ln_ <| nx <| sq_ <| ct_ H18 rfl <| wp_skip <| nx <| sq_ <| wp_block <| sq_ <| rl_ <| wl_ <| i_ H18 rfl (xS 1 1 rfl (H18.ev 9 rfl) (H18.ev 11 rfl)) fun _ H19 => wl_ <| i_ H19 rfl (dd_getR (HR _ HS.below) rfl (H19.ev 13 rfl) rfl Tryd.underlying25 rfl) fun _ H20 => wl_ <| p_ H20 rfl rfl fun _ H21 => ln_ <| nx <| sq_ <| rl_ <| q_ H21 2 rfl fun _ H22 => wl_ <| i_ H22 rfl (v := .int .i64 n2) (dd_len rfl (H22.ev 16 rfl) Tryd.underlying25) fun _ H23 => wl_ <| i_ H23 rfl (v := .int .i64 (n1 + n2)) (dd_ari rfl (H23.ev 15 rfl) (H23.ev 17 rfl) rfl (i64_of (by first | omega | (have := bd_lo; omega)) (by omega))) fun _ H24 => ?_
  clear H15 H16 H17 H18 H19 H20 H21 H22
  refine wl_ <| p_ H24 rfl rfl fun _ H25 => ln_ <| nx <| sq_ <| rl_ <| wl_ <| p_ H25 rfl rfl fun _ H26 => wl_ <| i_ H26 rfl (dd_cmp rfl (H26.ev 19 rfl) rfl (lt_f (by omega))) fun _ H27 => ln_ <| nx <| cf_ H27 rfl <| wp_skip <| bn <| nx <| rl_ <| wl_ <| i_ H27 rfl (v := .int .i64 2) (dd_ari rfl (H27.ev 11 rfl) rfl rfl (by decide)) fun _ H28 => wl_ <| p_ H28 rfl rfl fun _ H29 => ln_ <| nx <| unr_go <| sq_ <| rl_ <| wl_ <| i_ H29 rfl (dd_cmp rfl (H29.ev 11 rfl) (H29.ev 10 rfl) (lt_f (by decide))) fun _ H30 => ln_ <| nx <| sq_ <| cf_ H30 rfl <| wp_exit <| tx <| tx <| bx <| nx <| sq_ <| rl_ <| wl_ <| p_ H30 rfl rfl fun _ H31 => ?_
  clear H23 H24 H25 H26 H27 H28 H29 H30
  refine wl_ <| d_ H31 rfl (R := fun v w9 => ∃ gc33 cc33 cbc33, v = .slice (some ⟨gc33, 0, none⟩) 0 cc33 ∧ (w.heap.size ≤ gc33) ∧ (Row w9 gc33 40 cbc33) ∧ (OwnC cbc33 cc33 0 36 ([])) ∧ Below w.heap.size w w9) (dc_ Tryd.func30 rfl (args2 (show _ = (.slice none 0 0 : Value) from rfl) (H31.ev 23 rfl)) (growQ_any (n1 + n2) w (by omega) (by omega)) (fun _ w9 ⟨g9, c9, cb9, he, h1, h2, h3, hb⟩ => ⟨_, he, g9, c9, cb9, rfl, h1, h2, h3, hb⟩)) ?_
  rintro _ W32 ⟨gc33, cc33, cbc33, rfl, hg33, hr33, Oc33, hb32⟩ a32 H32
  have HS32 := HS.same hb32
  clear H31
  have HS32j : St w noF [⟨gc33, 40, cbc33⟩] W32 := HS.joins hb32 hr33 hg33
  clear HS32 hr33 hg33
  clear HS hb32
  refine wl_ <| p_ H32 rfl rfl fun _ H34 => ln_ <| ?_
  clear H32
  have H35 := H34.sel [0, 6] rfl
  refine nx <| sq_ <| sq_ <| rl_ <| wl_ <| p_ H35 rfl rfl fun _ H36 => wl_ <| i_ H36 rfl (v := .int .i64 2) (dd_len rfl (H36.ev 25 rfl) Tryd.underlying71) fun _ H37 => wl_ <| p_ H37 rfl rfl fun _ H38 => ln_ <| nx <| wp_block <| wp_unr 3 <| unr_go <| sq_ <| rl_ <| wl_ <| i_ H38 rfl (dd_cmp rfl (H38.ev 27 rfl) (H38.ev 26 rfl) (lt_t (by decide))) fun _ H39 => ln_ <| nx <| sq_ <| ct_ H39 rfl <| wp_skip <| nx <| sq_ <| wp_block <| sq_ <| rl_ <| wl_ <| i_ H39 rfl (xS 1 0 rfl (H39.ev 25 rfl) (H39.ev 27 rfl)) fun _ H40 => wl_ <| i_ H40 rfl (dd_getR (HR _ HS32j.below) rfl (H40.ev 29 rfl) rfl Tryd.underlying25 rfl) fun _ H41 => wl_ <| p_ H41 rfl rfl fun _ H42 => ln_ <| nx <| rl_ <| q_ H42 2 rfl fun _ H43 => ?_
  clear H34 H35 H36 H37 H38 H39 H40 H41
  refine wl_ <| a_ H43 rfl (fun g33_45 c33_45 => .slice (some ⟨g33_45, 0, none⟩) (0 + n1) c33_45) (T := fun _ c33_45 cb33_45 => OwnC cb33_45 c33_45 (0 + n1) 36 (itemsL X1)) (fun _ h => dd_appX HS32j 0 rfl Oc33 rfl (H43.ev 31 rfl) (z := .agg (catA [[.int .i64 0], [.int .i64 0], [.string (⟨#[]⟩)], [.int .i64 0], bytesV (zer 32)])) (bytes := 72) Tryd.underlying25 (by kernel_rfl) rfl (by decide) (itemsL X1) (H43.ev 32 rfl) (len_items (H1 _ HS32j.below).wf (H1 _ HS32j.below).len) (fun h9 => (H1 _ HS32j.below).at_ h9) (one_items _) (by unfold maxLen; omega) (by omega) h) fun g33_45 c33_45 cb33_45 _ O33_45 HS44 _ H44 => wl_ <| p_ H44 rfl rfl fun _ H46 => ln_ <| bn <| nx <| rl_ <| wl_ <| i_ H46 rfl (v := .int .i64 1) (dd_ari rfl (H46.ev 27 rfl) rfl rfl (by decide)) fun _ H47 => wl_ <| p_ H47 rfl rfl fun _ H48 => ln_ <| nx <| unr_go <| sq_ <| rl_ <| wl_ <| i_ H48 rfl (dd_cmp rfl (H48.ev 27 rfl) (H48.ev 26 rfl) (lt_t (by decide))) fun _ H49 => ln_ <| nx <| sq_ <| ct_ H49 rfl <| wp_skip <| nx <| sq_ <| wp_block <| sq_ <| rl_ <| wl_ <| i_ H49 rfl (xS 1 1 rfl (H49.ev 25 rfl) (H49.ev 27 rfl)) fun _ H50 => wl_ <| i_ H50 rfl (dd_getR (HR _ HS44.below) rfl (H50.ev 29 rfl) rfl Tryd.underlying25 rfl) fun _ H51 => wl_ <| p_ H51 rfl rfl fun _ H52 => ?_
  clear H42 HS32j H43 H44 H46 H47 H48 H49 H50
  refine ln_ <| nx <| rl_ <| q_ H52 2 rfl fun _ H53 => wl_ <| a_ H53 rfl (fun g33_55 c33_55 => .slice (some ⟨g33_55, 0, none⟩) (0 + n1 + n2) c33_55) (T := fun _ c33_55 cb33_55 => OwnC cb33_55 c33_55 (0 + n1 + n2) 36 (itemsL X1 ++ itemsL X2)) (fun _ h => dd_appX HS44 0 rfl O33_45 rfl (H53.ev 31 rfl) (z := .agg (catA [[.int .i64 0], [.int .i64 0], [.string (⟨#[]⟩)], [.int .i64 0], bytesV (zer 32)])) (bytes := 72) Tryd.underlying25 (by kernel_rfl) rfl (by decide) (itemsL X2) (H53.ev 32 rfl) (len_items (H2 _ HS44.below).wf (H2 _ HS44.below).len) (fun h9 => (H2 _ HS44.below).at_ h9) (one_items _) (by unfold maxLen; omega) (by omega) h) fun g33_55 c33_55 cb33_55 _ O33_55 HS54 _ H54 => wl_ <| p_ H54 rfl rfl fun _ H56 => ln_ <| bn <| nx <| rl_ <| wl_ <| i_ H56 rfl (v := .int .i64 2) (dd_ari rfl (H56.ev 27 rfl) rfl rfl (by decide)) fun _ H57 => wl_ <| p_ H57 rfl rfl fun _ H58 => ln_ <| nx <| unr_go <| sq_ <| rl_ <| wl_ <| i_ H58 rfl (dd_cmp rfl (H58.ev 27 rfl) (H58.ev 26 rfl) (lt_f (by decide))) fun _ H59 => ln_ <| nx <| sq_ <| cf_ H59 rfl <| wp_exit <| tx <| tx <| bx <| nx <| sq_ <| rl_ <| q_ H59 2 rfl fun _ H60 => ln_ <| nx <| wp_ret <| ret_run H60.env0 (res_t Tryd.results23 (H60.get 2 rfl)) <| ?_
  clear H51 H52 HS44 H53 H54 H56 H57 H58 H59
  rw [Nat.zero_add, ← items_app] at O33_55
  exact ⟨g33_55, c33_55, cb33_55, congrArg (fun z => Ending.returned (.slice (some ⟨g33_55, 0, none⟩) (z + n2) c33_55)) (Nat.zero_add n1), st_fresh2 HS54 0 rfl, HS54.row 0 rfl, O33_55, HS54.below⟩
end Go.Proofs.YtnmaplgodimohaaDoor

/- Volumes appended, the rows of the call staying. No function of the program is named here. -/
set_option maxRecDepth 4000
namespace Go.Proofs.YtnmaplgodimohaaDoor
open Go Go.RowKit
theorem dd_appV {o : Oper} {a : Act} {w w0 w1 : World} {R : Value → World → Prop} {S : List Blk} {B : Nat} (hb : Below w0.heap.size w0 w1) (hB : w0.heap.size ≤ B) (hB1 : B ≤ w1.heap.size) (HS : St w1 noF S w) {v : Value} {l1 : List Vl} (hov : OV B w1 v l1) {s x : Operand}
    (ho : o.op = .call { callee := .builtin .append, args := #[s, x], argTypes := #[75, 75] }) (hs : a.eval s = v) {ad : Addr} {m c : Nat} {l2 : List Vl} (hx : a.eval x = .slice (some ad) m c) (h2 : VolsIn B w (some ad) m c l2) (hnm : l1.length + l2.length ≤ 1000000)
    (h : ∀ v' w', OV B w' v' (l1 ++ l2) → St w0 noF S w' → R v' w') : Does Tryd.prog o a w R := fun K Q hK => by
  have hbw : Below w1.heap.size w1 w := HS.below
  have hov' := hov.call hbw hB1
  have hbase : B ≤ w.heap.size := Nat.le_trans hB1 hbw.size
  have hap : ∀ g, v.ownBlock = some g → w0.heap.size ≤ g ∧ ∀ r ∈ S, r.g ≠ g := fun g e => by
    obtain ⟨vs, h1, _⟩ := hov
    refine ⟨Nat.le_trans hB (h1.lt g e).1, fun r hr e2 => ?_⟩
    obtain ⟨k, hk⟩ := List.getElem?_of_mem hr
    have := (HS.own k r hk).resolve_left fun e => e
    have := (h1.lt g e).2
    omega
  obtain ⟨i0, hi, hz0, hz1, hz2⟩ := info_parts info_vol
  obtain ⟨vs, hown, hcv⟩ := hov'
  obtain ⟨rfl, _, us, hus, hcell⟩ := h2
  have h2l : us.flatten.length = l2.length * 2 := by rw [flat_length (sz := 2) _ hus.2.1, hus.1]
  refine wp_append_own_wide w s x 75 ho B 81 i0 (.agg #[.string ⟨#[]⟩, .slice none 0 0]) 2 40 Tryd.underlying75 hi hz0 hz1 hz2 rfl (by decide) v l1.length vs.flatten hs hown ad l2.length c us.flatten hx h2l (hcell ad rfl) (one_volV hus) (by unfold maxLen; omega) (by omega) hbase fun v' w' o2 hg _ => ?_
  refine hK _ _ (h v' w' ⟨vs ++ us, by rw [List.length_append, List.flatten_append]; exact o2, (hcv.append hus).grown hown hg hbase⟩ (st_grown (HS.first hb) hg hap))
theorem own_getI {cb : Array Value} {c n : Nat} {L : List Int} (O : OwnC cb c n 1 (intsV L)) (k : Nat) (h : k < n) : cb[k]? = some (.int .i64 (L.getD k 0)) := by
  have hl : L.length = n := by have := O.len; simpa [intsV] using this
  have h1 : (intsV L)[k]? = some (.int .i64 (L.getD k 0)) := by
    unfold intsV
    rw [List.getElem?_map, List.getD_eq_getElem?_getD, List.getElem?_eq_getElem (by omega)]; rfl
  rw [← O.take, List.getElem?_take_of_lt (by omega), Array.getElem?_toList] at h1
  exact h1
/- volumes of one's own stay while a row of another type, and new ones, are written -/
theorem ov_frame {B : Nat} {W W' : World} {v : Value} {l : List Vl} {g : Nat} {zs : Array Value} (h : OV B W v l) (hr : Row W g 70 zs) (hB : B ≤ g) (hBW : B ≤ W.heap.size) (k : Chg (inS [⟨g, 70, zs⟩]) W W') : OV B W' v l := by
  obtain ⟨vs, h1, hcv⟩ := h
  have hin : ∀ j, inS [⟨g, 70, zs⟩] j → j = g := fun j ⟨r, h2, h3⟩ => by
    rw [List.mem_singleton] at h2
    subst h2; exact h3.symm
  have hty : ∀ {e : TypeId} {sz n : Nat} {u : Value} {xs : List Value}, e ≠ 70 → W.ownsRow B e sz u n xs → ∀ j, u.ownBlock = some j → ¬ inS [⟨g, 70, zs⟩] j := fun he ho j hj hF => by
    have e := hin j hF
    subst e
    obtain ⟨_, h2 | ⟨g2, cap, cur, rfl, _, h3, _⟩⟩ := ho
    · rw [h2.1] at hj; cases hj
    · injection hj with hj
      have hj : g2 = j := hj
      subst hj
      rw [hr] at h3
      injection h3 with h3
      injection h3 with _ h3 _
      exact he h3.symm
  have hbl : Below B W W' := ⟨k.os, k.tape, k.output, k.size, fun j hj => k.block j (Nat.lt_of_lt_of_le hj hBW) fun hF => by have := hin j hF; omega⟩
  refine ⟨vs, own_chg h1 k (hty (by decide) h1), hcv.1, hcv.2.1, fun j x hx => ?_⟩
  obtain ⟨A, c, h2, h3, h4⟩ := hcv.2.2 j x hx
  refine ⟨A, c, h2, ?_, h4⟩
  rcases h3 with ⟨w1, k1, k2, k3⟩ | ⟨k1, k2⟩
  · exact .inl ⟨w1, k1, k2.trans hbl, k3⟩
  · exact .inr ⟨own_chg k1 k (hty (by decide) k1), k2⟩
end Go.Proofs.YtnmaplgodimohaaDoor

/- The program's and the document's Volumes, Place, Write. -/
set_option maxRecDepth 4000
namespace Go.Proofs.YtnmaplgodimohaaDoor
open Go Go.RowKit
theorem write_no {l : List Tv} {q d : List (BitVec 8)} {x : Int} (h : ¬ placeE l q x = 0) : writeP l q x d = [] := if_neg h
theorem write_yes {l : List Tv} {q d : List (BitVec 8)} {x : Int} (h : placeE l q x = 0) : writeP l q x d = [(placeI l q x, d)] := if_pos h
theorem own_put1 {w : World} {g b : Nat} {z : Int} {d : List (BitVec 8)} (h : Row w g 70 (catA [[.int .i64 z], bytesV d])) (hd : d.length = 32) (hb : b ≤ g) : w.ownsRow b 70 33 (.slice (some ⟨g, 0, none⟩) 1 1) ([(z, d)] : List Pt).length (([(z, d)] : List Pt).map pcell).flatten := by
  have e : (catA [[.int .i64 z], bytesV d]).toList = ([(z, d)] : List Pt).flatMap pcell := by simp [catA, pcell]
  have hl : (([(z, d)] : List Pt).map pcell).flatten.length = 1 * 33 := len_puts (fun x hx => by simp at hx; subst hx; exact hd)
  refine ownc_to h ⟨Nat.le_refl _, by decide, ?_, hl, ?_⟩ hb
  · rw [← Array.length_toList, e, List.flatMap, hl]
  · rw [e, List.flatMap, List.take_of_length_le (by rw [hl]; exact Nat.le_refl _)]
theorem volumes_any (qb : List (BitVec 8)) (w : World) (hqb : qb.length = 32) : Calls Tryd.prog 32 #[.agg (bs qb)] w fun e w' => ∃ v B, e = .returned v ∧ w.heap.size ≤ B ∧ B ≤ w'.heap.size ∧ OV B w' v (volL (decLT qb)) ∧ Below w.heap.size w w' := by
  have HS := St.nil w noF
  refine enter_en Tryd.func32 rfl Tryd.ntmps32 (Nat.le_of_ble_eq_true rfl) fun a0 (HA0 : En 11 [(0, .agg (bs qb))] a0) => ?_
  refine sq_ <| rl_ <| wl_ <| n_ HA0 rfl (fun _ h => dd_box HS rfl (HA0.ev 0 rfl) (cs := (bs qb)) rfl h) fun _ W1 HS1 _ H1 => wl_ <| p_ H1 rfl rfl fun _ H2 => ln_ <| nx <| sq_ <| rl_ <| ?_
  clear HS HA0 H1
  have hS1 := HS1
  refine wl_ <| i_ H2 rfl (v := .agg (bs qb)) (dd_load HS1 0 0 rfl rfl (H2.ev 1 rfl) (slab_whole _) Tryd.underlying36 rfl (by rw [show (bs qb).size = 32 from ((size_bs _).trans hqb)]; kernel_rfl)) fun _ H3 => ?_
  clear H2
  refine wl_ <| d_ H3 rfl (R := fun v w9 => ∃ A5 N5 C5 Bb5, v = .tuple #[.slice A5 N5 C5, .int .i64 (decE qb)] ∧ ((volL (decLT qb)).length = N5 ∧ N5 ≤ 3) ∧ (W1.heap.size ≤ Bb5 ∧ Bb5 ≤ w9.heap.size) ∧ (OV Bb5 w9 (.slice A5 N5 C5) (volL (decLT qb))) ∧ Below W1.heap.size W1 w9) (dc_ Tryd.func44 rfl (args1 (H3.ev 6 rfl)) (dect_any qb W1 hqb) (fun _ w9 ⟨v9, he, ho, hb⟩ => by obtain ⟨A9, n9, c9, rfl, h1, _⟩ := OV.form2 ho; exact ⟨_, he, A9, n9, c9, _, rfl, ⟨h1, by rw [← h1, len_volL]; exact decLT_len _⟩, ⟨Nat.le_refl _, hb.size⟩, ho, hb⟩)) ?_
  rintro _ W4 ⟨A5, N5, C5, Bb5, rfl, hNd5, hBb5, hov5, hb4⟩ a4 H4
  have HS4 := HS1.same hb4
  clear H3
  have hln5 : (decLT qb).length = N5 := by rw [← len_volL]; exact hNd5.1
  have HBs6 : Below w.heap.size w W4 := HS4.below
  have HR6_0 := fun (W9 : World) (hb9 : Below W4.heap.size W4 W9) => (HS4.row 0 rfl).call hb9
  have HSb6 := St.nil W4 noF
  clear HS4
  have HVd5 := fun (W9 : World) (hb9 : Below W4.heap.size W4 W9) => ((hov5.vols (Nat.le_trans (Nat.le_of_eq hNd5.1) (Nat.le_trans hNd5.2 (by decide)))).below hb9 (Nat.le_refl _))
  clear HS1 hb4
  refine wl_ <| p_ H4 rfl rfl fun _ H7 => wl_ <| i_ H7 rfl (v := .slice A5 N5 C5) (dd_ext rfl (H7.ev 5 rfl) rfl) fun _ H8 => wl_ <| i_ H8 rfl (v := .int .i64 (decE qb)) (dd_ext rfl (H8.ev 5 rfl) rfl) fun _ H9 => q_ H9 2 rfl fun _ H10 => ln_ <| nx <| sq_ <| rl_ <| q_ H10 2 rfl fun _ H11 => ln_ <| nx <| wp_ret <| ret_run H11.env0 (res_t Tryd.results32 (H11.get 2 rfl)) <| ?_
  clear H4 H7 H8 H9 H10
  exact ⟨_, Bb5, rfl, Nat.le_trans hS1.below.size hBb5.1, Nat.le_trans hBb5.2 HSb6.below.size, hov5.call HSb6.below hBb5.2, (HBs6.trans (HSb6.below.mono HBs6.size))⟩
set_option maxHeartbeats 800000 in
theorem place_any (qb q : List (BitVec 8)) (x : Int) (w : World) (hqb : qb.length = 32) : Calls Tryd.prog 31 #[.agg (bs qb), .string (strB q), .int .i64 x] w fun e w' => e = .returned (.tuple #[.int .i64 (placeI (decLT qb) q x), .int .i64 (placeE (decLT qb) q x)]) ∧ Below w.heap.size w w' := by
  have HS := St.nil w noF
  refine enter_en Tryd.func31 rfl Tryd.ntmps31 (Nat.le_of_ble_eq_true rfl) fun a0 (HA0 : En 37 [(0, .agg (bs qb)), (1, .string (strB q)), (2, .int .i64 x)] a0) => ?_
  refine sq_ <| rl_ <| wl_ <| n_ HA0 rfl (fun _ h => dd_box HS rfl (HA0.ev 0 rfl) (cs := (bs qb)) rfl h) fun _ W1 HS1 _ H1 => q_ H1 2 rfl fun _ H2 => ln_ <| nx <| sq_ <| rl_ <| wl_ <| i_ H2 rfl (v := .agg (bs qb)) (dd_load HS1 0 0 rfl rfl (H2.ev 3 rfl) (slab_whole _) Tryd.underlying36 rfl (by rw [show (bs qb).size = 32 from ((size_bs _).trans hqb)]; kernel_rfl)) fun _ H3 => ?_
  clear HS HA0 H1 H2
  refine wl_ <| d_ H3 rfl (R := fun v w9 => ∃ A5 N5 C5 Bb5, v = .slice A5 N5 C5 ∧ ((volL (decLT qb)).length = N5 ∧ N5 ≤ 3) ∧ (W1.heap.size ≤ Bb5 ∧ Bb5 ≤ w9.heap.size) ∧ (OV Bb5 w9 (.slice A5 N5 C5) (volL (decLT qb))) ∧ Below W1.heap.size W1 w9) (dc_ Tryd.func32 rfl (args1 (H3.ev 10 rfl)) (volumes_any qb W1 hqb) (fun _ w9 ⟨v9, B9, he, h4, h5, ho, hb⟩ => by obtain ⟨A9, n9, c9, rfl, h1, _⟩ := OV.form2 ho; exact ⟨_, he, A9, n9, c9, B9, rfl, ⟨h1, by rw [← h1, len_volL]; exact decLT_len _⟩, ⟨h4, h5⟩, ho, hb⟩)) ?_
  rintro _ W4 ⟨A5, N5, C5, Bb5, rfl, hNd5, hBb5, hov5, hb4⟩ a4 H4
  have HS4 := HS1.same hb4
  clear H3
  have hln5 : (decLT qb).length = N5 := by rw [← len_volL]; exact hNd5.1
  have HBs6 : Below w.heap.size w W4 := HS4.below
  have HR6_0 := fun (W9 : World) (hb9 : Below W4.heap.size W4 W9) => (HS4.row 0 rfl).call hb9
  have HSb6 := St.nil W4 noF
  clear HS4
  have HVd5 := fun (W9 : World) (hb9 : Below W4.heap.size W4 W9) => ((hov5.vols (Nat.le_trans (Nat.le_of_eq hNd5.1) (Nat.le_trans hNd5.2 (by decide)))).below hb9 (Nat.le_refl _))
  clear HS1 hb4
  refine wl_ <| p_ H4 rfl rfl fun _ H7 => ln_ <| nx <| sq_ <| rl_ <| q_ H7 2 rfl fun _ H8 => ?_
  clear H4 H7
  have hfi10 := findI_is q (decLT qb)
  refine wl_ <| c_ H8 rfl HSb6 (dcs Tryd.func36 rfl (args2 (H8.ev 12 rfl) (H8.ev 13 rfl)) (find_any _ _ _ q (decLT qb) W4 (HVd5 _ HSb6.below) (Nat.le_trans hNd5.2 (by decide))) (.int .i64 (findI q (decLT qb)))) fun W9 HS9 _ H9 => wl_ <| p_ H9 rfl rfl fun _ H11 => ln_ <| nx <| sq_ <| sq_ <| rl_ <| wl_ <| p_ H11 rfl rfl fun _ H12 => ?_
  clear H8 HSb6 H9 H11
  by_cases hc14 : (findI q (decLT qb) : Int) < 0
  ·
   refine wl_ <| i_ H12 rfl (dd_cmp rfl (H12.ev 15 rfl) rfl (lt_t hc14)) fun _ H15 => ln_ <| nx <| ct_ H15 rfl <| sq_ <| rl_ <| q_ H15 2 rfl fun _ H16 => ln_ <| nx <| wp_ret <| tr <| ret_run H16.env0 (res_tt Tryd.results31 (H16.get 6 rfl) (H16.get 7 rfl)) <| ?_
   clear H12 H15
   exact ⟨by rw [(place_16 hc14).1, (place_16 (x := x) hc14).2], (HBs6.trans (HS9.below.mono HBs6.size))⟩
  refine wl_ <| i_ H12 rfl (dd_cmp rfl (H12.ev 15 rfl) rfl (lt_f hc14)) fun _ H17 => ln_ <| nx <| cf_ H17 rfl <| wp_skip <| nx <| sq_ <| sq_ <| rl_ <| wl_ <| p_ H17 rfl rfl fun _ H18 => ?_
  clear H12 H17
  by_cases hc20 : (x : Int) < 0
  ·
   refine wl_ <| i_ H18 rfl (dd_cmp rfl (H18.ev 17 rfl) rfl (lt_t hc20)) fun _ H21 => wl_ <| p_ H21 rfl rfl fun _ H22 => wl_ <| k_ H22 (wg_ H22 rfl rfl rfl rfl) rfl fun _ H23 => wl_ <| k_ H23 (wg_ H23 rfl rfl rfl rfl) rfl fun _ H24 => wl_ <| k_ H24 (wg_ H24 rfl rfl rfl rfl) rfl fun _ H25 => wl_ <| k_ H25 (wg_ H25 rfl rfl rfl rfl) rfl fun _ H26 => wl_ <| k_ H26 (wg_ H26 rfl rfl rfl rfl) rfl fun _ H27 => wl_ <| k_ H27 (wg_ H27 rfl rfl rfl rfl) rfl fun _ H28 => ?_
   clear H18 H21 H22 H23 H24 H25 H26
   refine wl_ <| k_ H28 (wg_ H28 rfl rfl rfl rfl) rfl fun _ H29 => wl_ <| k_ H29 (wg_ H29 rfl rfl rfl rfl) rfl fun _ H30 => wl_ <| p_ H30 rfl rfl fun _ H31 => ln_ <| ?_
   clear H27 H28 H29 H30
   have H32 := H31.sel [2, 8, 9, 28] rfl
   refine nx <| ct_ H32 rfl <| sq_ <| rl_ <| q_ H32 2 rfl fun _ H33 => ln_ <| nx <| wp_ret <| tr <| ret_run H33.env0 (res_tt Tryd.results31 (H33.get 6 rfl) (H33.get 7 rfl)) <| ?_
   clear H31 H32
   exact ⟨by rw [(place_17n (x := x) hc14 hc20).1, (place_17n (x := x) hc14 hc20).2], (HBs6.trans (HS9.below.mono HBs6.size))⟩
  refine wl_ <| i_ H18 rfl (dd_cmp rfl (H18.ev 17 rfl) rfl (lt_f hc20)) fun _ H34 => wl_ <| p_ H34 rfl rfl fun _ H35 => wl_ <| ig H35 (wg_ H35 rfl rfl rfl rfl) rfl (dd_mv rfl (H35.ev 2 rfl)) fun _ H36 => wl_ <| ig H36 (wg_ H36 rfl rfl rfl rfl) rfl (dd_mv rfl (H36.ev 8 rfl)) fun _ H37 => wl_ <| ig H37 (wg_ H37 rfl rfl rfl rfl) rfl (dd_mv rfl (H37.ev 9 rfl)) fun _ H38 => ?_
  clear H18 H34 H35 H36 H37
  obtain ⟨b40, o40, hA40⟩ := vols_some (HVd5 _ HS9.below) (by omega)
  have HVs40 := fun (W9 : World) (hb9 : Below W4.heap.size W4 W9) => hA40 ▸ HVd5 W9 hb9
  refine wl_ <| ig H38 (wg_ H38 rfl rfl rfl rfl) rfl (dd_idxS (sz := 2) (j := o40 + (Int.toNat (findI q (decLT qb))) * 2) rfl (sl_at (H38.ev 21 rfl) hA40) (H38.ev 22 rfl) (by kernel_rfl) (by omega) (by omega) (by omega)) fun _ H39 => wl_ <| ig H39 (wg_ H39 rfl rfl rfl rfl) rfl (xf 1 (o40 + (Int.toNat (findI q (decLT qb))) * 2 + 1) rfl (H39.ev 23 rfl)) fun _ H41 => ?_
  clear H38 H39
  obtain ⟨p43, L43, B43, m43, c43, hg43, hr43, hm43, hp43⟩ := vols_getC (HVs40 _ (Below.refl _ _)) (k := (Int.toNat (findI q (decLT qb)))) (by omega)
  refine wl_ <| ig H41 (wg_ H41 rfl rfl rfl rfl) rfl (dd_at rfl (H41.ev 24 rfl) ((hr43 _ HS9.below).1 1 _ rfl) Tryd.underlying45 rfl) fun _ H42 => wl_ <| ig H42 (wg_ H42 rfl rfl rfl rfl) rfl (v := .int .i64 m43) (dd_len rfl (H42.ev 25 rfl) Tryd.underlying45) fun _ H44 => ?_
  clear H41 H42
  by_cases hc46 : (m43 : Int) ≤ x
  ·
   refine wl_ <| ig H44 (wg_ H44 rfl rfl rfl rfl) rfl (dd_cmp rfl (H44.ev 20 rfl) (H44.ev 26 rfl) (ge_t hc46)) fun _ H47 => wl_ <| p_ H47 rfl rfl fun _ H48 => ln_ <| ?_
   clear H44 H47
   have H49 := H48.sel [2, 8, 9, 28] rfl
   refine nx <| ct_ H49 rfl <| sq_ <| rl_ <| q_ H49 2 rfl fun _ H50 => ln_ <| nx <| wp_ret <| tr <| ret_run H50.env0 (res_tt Tryd.results31 (H50.get 6 rfl) (H50.get 7 rfl)) <| ?_
   clear H48 H49
   exact ⟨by rw [(place_17 (x := x) hc14 hg43 (by omega)).1, (place_17 (x := x) hc14 hg43 (by omega)).2], (HBs6.trans (HS9.below.mono HBs6.size))⟩
  refine wl_ <| ig H44 (wg_ H44 rfl rfl rfl rfl) rfl (dd_cmp rfl (H44.ev 20 rfl) (H44.ev 26 rfl) (ge_f hc46)) fun _ H51 => wl_ <| p_ H51 rfl rfl fun _ H52 => ln_ <| ?_
  clear H44 H51
  have H53 := H52.sel [2, 8, 9, 28] rfl
  refine nx <| cf_ H53 rfl <| wp_skip <| nx <| sq_ <| rl_ <| q_ H53 2 rfl fun _ H54 => wl_ <| i_ H54 rfl (dd_idxS (sz := 2) (j := o40 + (Int.toNat (findI q (decLT qb))) * 2) rfl (sl_at (H54.ev 29 rfl) hA40) (H54.ev 30 rfl) (by kernel_rfl) (by omega) (by omega) (by omega)) fun _ H55 => wl_ <| i_ H55 rfl (xf 1 (o40 + (Int.toNat (findI q (decLT qb))) * 2 + 1) rfl (H55.ev 31 rfl)) fun _ H56 => wl_ <| i_ H56 rfl (dd_at rfl (H56.ev 32 rfl) ((hr43 _ HS9.below).1 1 _ rfl) Tryd.underlying45 rfl) fun _ H57 => wl_ <| p_ H57 rfl rfl fun _ H58 => ?_
  clear H52 H53 H54 H55 H56 H57
  obtain ⟨bi43, oi43, hB43⟩ := ints_addr (hr43 _ (Below.refl _ _)).2 (by omega)
  refine wl_ <| i_ H58 rfl (dd_idxS (sz := 1) (j := oi43 + (Int.toNat x)) rfl (sl_at (H58.ev 33 rfl) hB43) (H58.ev 34 rfl) (by kernel_rfl) (by omega) (by omega) (by omega)) fun _ H59 => wl_ <| i_ H59 rfl (dd_at rfl (H59.ev 35 rfl) (ints_atB (hr43 _ HS9.below).2 hB43 (Int.toNat x) (by omega)) Tryd.underlying3 rfl) fun _ H60 => q_ H60 2 rfl fun _ H61 => ln_ <| nx <| wp_ret <| ret_run H61.env0 (res_tt Tryd.results31 (H61.get 6 rfl) (H61.get 7 rfl)) <| ?_
  clear H58 H59 H60
  exact ⟨by rw [(place_0 (x := x) hc14 hg43 (by omega)).1, (place_0 (x := x) hc14 hg43 (by omega)).2], (HBs6.trans (HS9.below.mono HBs6.size))⟩
theorem write_any (qb q d : List (BitVec 8)) (x : Int) (w : World) (hqb : qb.length = 32) (hd : d.length = 32) : Calls Tryd.prog 24 #[.agg (bs qb), .string (strB q), .int .i64 x, .agg (bs d)] w fun e w' => ∃ v, e = .returned (.tuple #[v, .int .i64 (placeE (decLT qb) q x)]) ∧ w'.ownsRow w.heap.size 70 33 v (writeP (decLT qb) q x d).length ((writeP (decLT qb) q x d).map pcell).flatten ∧ Below w.heap.size w w' := by
  have HS := St.nil w noF
  refine enter_en Tryd.func24 rfl Tryd.ntmps24 (Nat.le_of_ble_eq_true rfl) fun a0 (HA0 : En 26 [(0, .agg (bs qb)), (1, .string (strB q)), (2, .int .i64 x), (3, .agg (bs d))] a0) => ?_
  refine sq_ <| rl_ <| wl_ <| n_ HA0 rfl (fun _ h => dd_box HS rfl (HA0.ev 0 rfl) (cs := (bs qb)) rfl h) fun _ _ HS1 _ H1 => wl_ <| n_ H1 rfl (fun _ h => dd_box HS1 rfl (H1.ev 3 rfl) (cs := (bs d)) rfl h) fun _ W2 HS2 _ H2 => q_ H2 2 rfl fun _ H3 => ln_ <| nx <| sq_ <| rl_ <| wl_ <| i_ H3 rfl (v := .agg (bs qb)) (dd_load HS2 0 0 rfl rfl (H3.ev 4 rfl) (slab_whole _) Tryd.underlying36 rfl (by rw [show (bs qb).size = 32 from ((size_bs _).trans hqb)]; kernel_rfl)) fun _ H4 => q_ H4 2 rfl fun _ H5 => wl_ <| c_ H5 rfl HS2 (dcs Tryd.func31 rfl (args3 (H5.ev 13 rfl) (H5.ev 14 rfl) (H5.ev 15 rfl)) (place_any qb q x W2 hqb) (.tuple #[.int .i64 (placeI (decLT qb) q x), .int .i64 (placeE (decLT qb) q x)])) fun _ HS6 _ H6 => wl_ <| p_ H6 rfl rfl fun _ H7 => wl_ <| i_ H7 rfl (v := .int .i64 (placeI (decLT qb) q x)) (dd_ext rfl (H7.ev 12 rfl) rfl) fun _ H8 => ?_
  clear HS HA0 HS1 H1 H2 H3 H4 H5 HS2 H6
  refine wl_ <| i_ H8 rfl (v := .int .i64 (placeE (decLT qb) q x)) (dd_ext rfl (H8.ev 12 rfl) rfl) fun _ H9 => q_ H9 2 rfl fun _ H10 => ln_ <| nx <| sq_ <| sq_ <| rl_ <| wl_ <| p_ H10 rfl rfl fun _ H11 => ?_
  clear H7 H8 H9 H10
  by_cases hc13 : (placeE (decLT qb) q x : Int) = 0
  ·
   refine wl_ <| i_ H11 rfl (dd_cmp rfl (H11.ev 19 rfl) rfl (ne_f hc13)) fun _ H14 => ln_ <| nx <| cf_ H14 rfl <| wp_skip <| nx <| sq_ <| rl_ <| wl_ <| p_ H14 rfl rfl fun _ H15 => wl_ <| i_ H15 rfl (v := .agg (bs d)) (dd_load HS6 1 0 rfl rfl (H15.ev 7 rfl) (slab_whole _) Tryd.underlying36 rfl (by rw [show (bs d).size = 32 from ((size_bs _).trans hd)]; kernel_rfl)) fun _ H16 => wl_ <| i_ H16 rfl (v := .agg (catA [[.int .i64 (placeI (decLT qb) q x)], bytesV d])) (dd_bld rfl (ps := [(0, .int .i64 (placeI (decLT qb) q x)), (1, .agg (bs d))]) (pr1 (H16.ev 22 rfl) (pr1 (H16.ev 23 rfl) (pr0))) (Lz := [[.int .i64 0], bytesV (zer 32)]) (by kernel_rfl) (lens_cons rfl (lens_cons (len_bv (length_zer 32)) (lens_nil))) (fit_cons (i := 0) rfl rfl (fit_cons (i := 1) rfl ((size_bs _).trans hd) (fit_nil))) (cs := catA [[.int .i64 (placeI (decLT qb) q x)], bytesV d]) rfl) fun _ H17 => wl_ <| n_ H17 rfl (fun _ h => dd_lit1 HS6 (z := .agg (catA [[.int .i64 0], bytesV (zer 32)])) (sz := 33) rfl (H17.ev 24 rfl) Tryd.underlying51 (by kernel_rfl) (cat_size (lens_cons rfl (lens_cons (len_bv hd) (lens_nil)))) rfl rfl h) fun _ _ HS18 _ H18 => q_ H18 2 rfl fun _ H19 => ln_ <| ?_
   clear H11 H14 H15 H16 HS6 H17 H18
   have H20 := H19.sel [8, 9] rfl
   refine nx <| wp_ret <| ret_run H20.env0 (res_tt Tryd.results24 (H20.get 8 rfl) (H20.get 9 rfl)) <| ?_
   clear H19
   exact ⟨_, by rw [hc13], by rw [write_yes hc13]; exact own_put1 (HS18.row 2 rfl) hd (st_fresh2 HS18 2 rfl), HS18.below⟩
  refine wl_ <| i_ H11 rfl (dd_cmp rfl (H11.ev 19 rfl) rfl (ne_t hc13)) fun _ H21 => ln_ <| nx <| ct_ H21 rfl <| sq_ <| rl_ <| q_ H21 3 rfl fun _ H22 => ln_ <| ?_
  clear H11 H21
  have H23 := H22.sel [8, 9] rfl
  refine nx <| wp_ret <| tr <| ret_run H23.env0 (res_tt Tryd.results24 (H23.get 8 rfl) (H23.get 9 rfl)) <| ?_
  clear H22
  exact ⟨_, rfl, by rw [write_no hc13]; exact World.ownsRow_nil _ _ _ _, HS6.below⟩
end Go.Proofs.YtnmaplgodimohaaDoor

/- The program's mayMake, withTable. -/
set_option maxRecDepth 4000
namespace Go.Proofs.YtnmaplgodimohaaDoor
open Go Go.RowKit
section
variable {l : List Tv} {q : List (BitVec 8)} {n : Int}
theorem may_11 (h : goodN q = false) : mayE l q n = 11 := if_pos h
theorem may_16 (h : goodN q = true) (h2 : 0 ≤ findI q l) : mayE l q n = 16 := by unfold mayE; rw [if_neg (by rw [h]; decide), if_pos h2]
theorem may_17 (h : goodN q = true) (h2 : ¬ 0 ≤ findI q l) (h3 : n < 1 ∨ 4 < n) : mayE l q n = 17 := by unfold mayE; rw [if_neg (by rw [h]; decide), if_neg h2, if_pos h3]
theorem may_18 (h : goodN q = true) (h2 : ¬ 0 ≤ findI q l) (h3 : ¬ (n < 1 ∨ 4 < n)) (h4 : (3 : Int) ≤ l.length) : mayE l q n = 18 := by unfold mayE; rw [if_neg (by rw [h]; decide), if_neg h2, if_neg h3, if_pos h4]
theorem may_0 (h : goodN q = true) (h2 : ¬ 0 ≤ findI q l) (h3 : ¬ (n < 1 ∨ 4 < n)) (h4 : ¬ (3 : Int) ≤ l.length) : mayE l q n = 0 := by unfold mayE; rw [if_neg (by rw [h]; decide), if_neg h2, if_neg h3, if_neg h4]
theorem may_of0 (h : mayE l q n = 0) : goodN q = true ∧ ¬ 0 ≤ findI q l ∧ 1 ≤ n ∧ n ≤ 4 ∧ l.length ≤ 2 := by
  cases hg : goodN q with
  | false => rw [may_11 hg] at h; cases h
  | true =>
    by_cases h2 : 0 ≤ findI q l
    · rw [may_16 hg h2] at h; cases h
    by_cases h3 : n < 1 ∨ 4 < n
    · rw [may_17 hg h2 h3] at h; cases h
    by_cases h4 : (3 : Int) ≤ l.length
    · rw [may_18 hg h2 h3 h4] at h; cases h
    exact ⟨rfl, h2, by omega, by omega, by omega⟩
end
set_option maxHeartbeats 800000 in
theorem maymake_any (A : Option Addr) (N C : Nat) (l : List Tv) (q : List (BitVec 8)) (n : Int) (w : World) (hv : VolsAt w (.slice A N C) (volL l)) (hN : N ≤ 1000000) (hq : q.length ≤ maxLen) :
    Calls Tryd.prog 33 #[.string (strB q), .int .i64 n, .slice A N C] w fun e w' => e = .returned (.int .i64 (mayE l q n)) ∧ Below w.heap.size w w' := by
  have HS := St.nil w noF
  have HV : ∀ W, Below w.heap.size w W → VolsAt W (.slice A N C) (volL l) := fun W hb => hv.below hb (Nat.le_refl _)
  have hln : l.length = N := by rw [← len_volL]; exact vols_len hv
  refine enter_en Tryd.func33 rfl Tryd.ntmps33 (Nat.le_of_ble_eq_true rfl) fun a0 (HA0 : En 28 [(0, .string (strB q)), (1, .int .i64 n), (2, .slice A N C)] a0) => ?_
  refine sq_ <| rl_ <| wl_ <| p_ HA0 rfl rfl fun _ H1 => ln_ <| nx <| sq_ <| wp_block <| sq_ <| rl_ <| wl_ <| p_ H1 rfl rfl fun _ H2 => wl_ <| n_ H2 rfl (fun _ h => dd_lits HS #[.string (strB q)] rfl (ps := [(0, .string (strB q))]) (pr1 (H2.ev 8 rfl) (pr0)) (z := .string (⟨#[]⟩)) (sz := 1) Tryd.underlying88 (by kernel_rfl) rfl rfl (by kernel_rfl) h) fun _ W3 HS3 _ H3 => ?_
  clear HA0 H1 HS H2
  cases hb5 : goodN q
  ·
   refine wl_ <| c_ H3 rfl HS3 (v := .bool false) (dc_ Tryd.func45 rfl (args1 (H3.ev 9 rfl)) (good_any [q] _ W3 (strs_row (HS3.row 0 rfl) hq) (by unfold maxLen; simp)) (fun _ w9 h9 => ⟨_, h9.1, by rw [goodNs_oneT, hb5], h9.2⟩)) fun _ HS6 _ H6 => wl_ <| i_ H6 rfl (v := .bool true) (dd_nt rfl (H6.ev 10 rfl) rfl) fun _ H7 => wl_ <| p_ H7 rfl rfl fun _ H8 => ln_ <| nx <| ct_ H8 rfl <| sq_ <| rl_ <| wl_ <| p_ H8 rfl rfl fun _ H9 => ln_ <| nx <| wp_ret <| br_ <| tr <| ret_run H9.env0 (res_t Tryd.results33 (H9.get 6 rfl)) <| ?_
   clear H3 HS3 H6 H7 H8
   exact ⟨by rw [may_11 hb5], HS6.below⟩
  refine wl_ <| c_ H3 rfl HS3 (v := .bool true) (dc_ Tryd.func45 rfl (args1 (H3.ev 9 rfl)) (good_any [q] _ W3 (strs_row (HS3.row 0 rfl) hq) (by unfold maxLen; simp)) (fun _ w9 h9 => ⟨_, h9.1, by rw [goodNs_oneT, hb5], h9.2⟩)) fun W10 HS10 _ H10 => wl_ <| i_ H10 rfl (v := .bool false) (dd_nt rfl (H10.ev 10 rfl) rfl) fun _ H11 => wl_ <| p_ H11 rfl rfl fun _ H12 => ln_ <| nx <| cf_ H12 rfl <| sq_ <| rl_ <| q_ H12 2 rfl fun _ H13 => ?_
  clear H3 HS3 H10 H11 H12
  have hfi15 := findI_is q l
  refine wl_ <| c_ H13 rfl HS10 (dcs Tryd.func36 rfl (args2 (H13.ev 13 rfl) (H13.ev 14 rfl)) (find_any _ _ _ q l W10 (HV _ HS10.below) hN) (.int .i64 (findI q l))) fun _ HS14 _ H14 => ?_
  clear H13 HS10
  by_cases hc17 : (0 : Int) ≤ findI q l
  ·
   refine wl_ <| i_ H14 rfl (dd_cmp rfl (H14.ev 15 rfl) rfl (ge_t hc17)) fun _ H18 => wl_ <| p_ H18 rfl rfl fun _ H19 => ln_ <| nx <| ct_ H19 rfl <| sq_ <| rl_ <| wl_ <| p_ H19 rfl rfl fun _ H20 => ln_ <| nx <| wp_ret <| br_ <| tr <| ret_run H20.env0 (res_t Tryd.results33 (H20.get 6 rfl)) <| ?_
   clear H14 H18 H19
   exact ⟨by rw [may_16 hb5 hc17], HS14.below⟩
  refine wl_ <| i_ H14 rfl (dd_cmp rfl (H14.ev 15 rfl) rfl (ge_f hc17)) fun _ H21 => wl_ <| p_ H21 rfl rfl fun _ H22 => ln_ <| nx <| cf_ H22 rfl <| sq_ <| rl_ <| wl_ <| p_ H22 rfl rfl fun _ H23 => ?_
  clear H14 H21 H22
  by_cases hc25 : (n : Int) < 1
  ·
   refine wl_ <| i_ H23 rfl (dd_cmp rfl (H23.ev 18 rfl) rfl (lt_t hc25)) fun _ H26 => wl_ <| p_ H26 rfl rfl fun _ H27 => wl_ <| k_ H27 (wg_ H27 rfl rfl rfl rfl) rfl fun _ H28 => wl_ <| k_ H28 (wg_ H28 rfl rfl rfl rfl) rfl fun _ H29 => q_ H29 2 rfl fun _ H30 => ln_ <| ?_
   clear H23 H26 H27 H28 H29
   have H31 := H30.sel [2, 17] rfl
   refine nx <| ct_ H31 rfl <| sq_ <| rl_ <| wl_ <| p_ H31 rfl rfl fun _ H32 => ln_ <| nx <| wp_ret <| br_ <| tr <| ret_run H32.env0 (res_t Tryd.results33 (H32.get 6 rfl)) <| ?_
   clear H30 H31
   exact ⟨by rw [may_17 hb5 hc17 (by omega)], HS14.below⟩
  refine wl_ <| i_ H23 rfl (dd_cmp rfl (H23.ev 18 rfl) rfl (lt_f hc25)) fun _ H33 => wl_ <| p_ H33 rfl rfl fun _ H34 => wl_ <| ig H34 (wg_ H34 rfl rfl rfl rfl) rfl (dd_mv rfl (H34.ev 1 rfl)) fun _ H35 => ?_
  clear H23 H33 H34
  by_cases hc37 : (4 : Int) < n
  ·
   refine wl_ <| ig H35 (wg_ H35 rfl rfl rfl rfl) rfl (dd_cmp rfl (H35.ev 21 rfl) rfl (gt_t hc37)) fun _ H38 => q_ H38 2 rfl fun _ H39 => ln_ <| ?_
   clear H35 H38
   have H40 := H39.sel [2, 17] rfl
   refine nx <| ct_ H40 rfl <| sq_ <| rl_ <| wl_ <| p_ H40 rfl rfl fun _ H41 => ln_ <| nx <| wp_ret <| br_ <| tr <| ret_run H41.env0 (res_t Tryd.results33 (H41.get 6 rfl)) <| ?_
   clear H39 H40
   exact ⟨by rw [may_17 hb5 hc17 (by omega)], HS14.below⟩
  refine wl_ <| ig H35 (wg_ H35 rfl rfl rfl rfl) rfl (dd_cmp rfl (H35.ev 21 rfl) rfl (gt_f hc37)) fun _ H42 => q_ H42 2 rfl fun _ H43 => ln_ <| ?_
  clear H35 H42
  have H44 := H43.sel [2, 17] rfl
  refine nx <| cf_ H44 rfl <| sq_ <| rl_ <| wl_ <| p_ H44 rfl rfl fun _ H45 => wl_ <| i_ H45 rfl (v := .int .i64 N) (dd_len rfl (H45.ev 25 rfl) Tryd.underlying75) fun _ H46 => ?_
  clear H43 H44 H45
  by_cases hc48 : (3 : Int) ≤ N
  ·
   refine wl_ <| i_ H46 rfl (dd_cmp rfl (H46.ev 26 rfl) rfl (ge_t hc48)) fun _ H49 => wl_ <| p_ H49 rfl rfl fun _ H50 => ln_ <| nx <| ct_ H50 rfl <| sq_ <| rl_ <| wl_ <| p_ H50 rfl rfl fun _ H51 => ln_ <| nx <| wp_ret <| br_ <| tr <| ret_run H51.env0 (res_t Tryd.results33 (H51.get 6 rfl)) <| ?_
   clear H46 H49 H50
   exact ⟨by rw [may_18 hb5 hc17 (by omega) (by omega)], HS14.below⟩
  refine wl_ <| i_ H46 rfl (dd_cmp rfl (H46.ev 26 rfl) rfl (ge_f hc48)) fun _ H52 => wl_ <| p_ H52 rfl rfl fun _ H53 => ln_ <| nx <| cf_ H53 rfl <| wp_skip <| bn <| nx <| sq_ <| rl_ <| wl_ <| p_ H53 rfl rfl fun _ H54 => ln_ <| nx <| wp_ret <| ret_run H54.env0 (res_t Tryd.results33 (H54.get 6 rfl)) <| ?_
  clear H46 H52 H53
  exact ⟨by rw [may_0 hb5 hc17 (by omega) (by omega)], HS14.below⟩
theorem put_snoc {cb : Array Value} {c k : Nat} {P : List Pt} {z : Int} {d : List (BitVec 8)} (h : OwnC cb c k 33 ((P.map pcell).flatten ++ (catA [[.int .i64 z], bytesV d]).toList)) : OwnC cb c k 33 ((P ++ [(z, d)]).map pcell).flatten := by
  have e : (P.map pcell).flatten ++ (catA [[.int .i64 z], bytesV d]).toList = ((P ++ [(z, d)]).map pcell).flatten := by simp [catA, pcell]
  rw [← e]; exact h
set_option maxHeartbeats 800000 in
theorem withtable_own (A : Option Addr) (N C g k c : Nat) (l : List Tv) (P : List Pt) (zs : Array Value) (F : Nat → Prop) (w : World) (HS : St w F [⟨g, 70, zs⟩] w) (Oz : OwnC zs c k 33 (P.map pcell).flatten) (HV : ∀ W, Chg F w W → VolsAt W (.slice A N C) (volL l)) (hN : N ≤ 1000000) (hm : ∀ x ∈ l, x.2.length ≤ 1000000) (hk : k ≤ 100) :
    Calls Tryd.prog 35 #[.slice A N C, .slice (some ⟨g, 0, none⟩) k c] w fun e w' => ∃ g' c' cb', e = .returned (.slice (some ⟨g', 0, none⟩) (k + 1) c') ∧ OwnC cb' c' (k + 1) 33 ((P ++ [(0, encT l)]).map pcell).flatten ∧ St w F [⟨g', 70, cb'⟩] w' := by
  refine enter_en Tryd.func35 rfl Tryd.ntmps35 (Nat.le_of_ble_eq_true rfl) fun a0 (HA0 : En 17 [(0, .slice A N C), (1, .slice (some ⟨g, 0, none⟩) k c)] a0) => ?_
  refine sq_ <| rl_ <| wl_ <| p_ HA0 rfl rfl fun _ H1 => ln_ <| nx <| sq_ <| rl_ <| wl_ <| p_ H1 rfl rfl fun _ H2 => wl_ <| c_ H2 rfl HS (dcs Tryd.func48 rfl (args1 (H2.ev 8 rfl)) (enct_any _ _ _ l w (HV _ HS.chg) hN hm) (.tuple #[.agg (bs (encT l)), .int .i64 (encE l)])) fun _ HS3 _ H3 => wl_ <| p_ H3 rfl rfl fun _ H4 => wl_ <| i_ H4 rfl (v := .agg (bs (encT l))) (dd_ext rfl (H4.ev 7 rfl) rfl) fun _ H5 => wl_ <| i_ H5 rfl (v := .int .i64 (encE l)) (dd_ext rfl (H5.ev 7 rfl) rfl) fun _ H6 => wl_ <| n_ H6 rfl (fun _ h => dd_new HS3 (bs (zer 32)) rfl (z := .agg (bs (zer 32))) (by kernel_rfl) rfl h) fun g5 _ HS7 _ H7 => wl_ <| t_ rfl (fun _ h => dd_setrow HS7 1 rfl rfl (H7.ev 5 rfl) (H7.ev 10 rfl) (by kernel_rfl) (((size_bs _).trans (length_encT _)) : (bs (encT l)).size = 32) (((size_bs _).trans (length_zer 32)) : (bs (zer 32)).size = 32) (one_bs _) h) fun _ HS8 => ?_
  clear HA0 H1 H2 HS H3 H4 H5 HS3 H6
  refine wl_ <| p_ H7 rfl rfl fun _ H9 => ln_ <| nx <| sq_ <| rl_ <| wl_ <| p_ H9 rfl rfl fun _ H10 => wl_ <| i_ H10 rfl (v := .agg (bs (encT l))) (dd_load HS8 1 0 rfl rfl (H10.ev 5 rfl) (slab_whole _) Tryd.underlying36 rfl (by rw [show (bs (encT l)).size = 32 from ((size_bs _).trans (length_encT _))]; kernel_rfl)) fun _ H11 => wl_ <| i_ H11 rfl (v := .agg (catA [[.int .i64 0], bytesV (encT l)])) (dd_bld rfl (ps := [(0, .int .i64 0), (1, .agg (bs (encT l)))]) (pr1 rfl (pr1 (H11.ev 13 rfl) (pr0))) (Lz := [[.int .i64 0], bytesV (zer 32)]) (by kernel_rfl) (lens_cons rfl (lens_cons (len_bv (length_zer 32)) (lens_nil))) (fit_cons (i := 0) rfl rfl (fit_cons (i := 1) rfl ((size_bs _).trans (length_encT _)) (fit_nil))) (cs := catA [[.int .i64 0], bytesV (encT l)]) rfl) fun _ H12 => wl_ <| n_ H12 rfl (fun _ h => dd_lit1 HS8 (z := .agg (catA [[.int .i64 0], bytesV (zer 32)])) (sz := 33) rfl (H12.ev 14 rfl) Tryd.underlying51 (by kernel_rfl) (cat_size (lens_cons rfl (lens_cons (len_bv (length_encT _)) (lens_nil)))) rfl rfl h) fun g15 _ HS13 _ H13 => wl_ <| a_ H13 rfl (S := fun g16_15 cb16_15 => [⟨g5, 36, bs (encT l)⟩, ⟨g15, 70, catA [[.int .i64 0], bytesV (encT l)]⟩, ⟨g16_15, 70, cb16_15⟩]) (fun g16_15 c16_15 => .slice (some ⟨g16_15, 0, none⟩) (k + 1) c16_15) (T := fun _ c16_15 cb16_15 => OwnC cb16_15 c16_15 (k + 1) 33 (((P.map pcell).flatten) ++ (catA [[.int .i64 0], bytesV (encT l)]).toList)) (fun _ h => dd_app HS13 0 rfl Oz rfl (H13.ev 12 rfl) (z := .agg (catA [[.int .i64 0], bytesV (zer 32)])) (bytes := 40) Tryd.underlying51 (by kernel_rfl) rfl (by decide) ((catA [[.int .i64 0], bytesV (encT l)]).toList) (H13.ev 15 rfl) (lenA (cat_size (lens_cons rfl (lens_cons (len_bv (length_encT _)) (lens_nil))))) (row_news (HS13.row 2 rfl) 0 (slabA (slab_whole _))) (all_one (cat_one (ones_cons (ones_c rfl) (ones_cons (one_bytesV _) (ones_nil))))) (by unfold maxLen; omega) (by omega) h) fun g16_15 c16_15 cb16_15 _ O16_15 HS14 _ H14 => wl_ <| p_ H14 rfl rfl fun _ H16 => ln_ <| nx <| wp_ret <| ret_run H16.env0 (res_t Tryd.results35 (H16.get 4 rfl)) <| ?_
  clear HS7 H7 H9 H10 H11 HS8 H12 HS13 H13 H14
  exact ⟨g16_15, c16_15, cb16_15, rfl, put_snoc O16_15, ss HS14 [2]⟩
set_option maxHeartbeats 800000 in
theorem withtable_nil (A : Option Addr) (N C : Nat) (l : List Tv) (F : Nat → Prop) (w : World) (HV : ∀ W, Chg F w W → VolsAt W (.slice A N C) (volL l)) (hN : N ≤ 1000000) (hm : ∀ x ∈ l, x.2.length ≤ 1000000) :
    Calls Tryd.prog 35 #[.slice A N C, .slice none 0 0] w fun e w' => ∃ g' c' cb', e = .returned (.slice (some ⟨g', 0, none⟩) 1 c') ∧ OwnC cb' c' 1 33 (([(0, encT l)] : List Pt).map pcell).flatten ∧ St w F [⟨g', 70, cb'⟩] w' := by
  have HS := St.nil w F
  refine enter_en Tryd.func35 rfl Tryd.ntmps35 (Nat.le_of_ble_eq_true rfl) fun a0 (HA0 : En 17 [(0, .slice A N C), (1, .slice none 0 0)] a0) => ?_
  refine sq_ <| rl_ <| wl_ <| p_ HA0 rfl rfl fun _ H1 => ln_ <| nx <| sq_ <| rl_ <| wl_ <| p_ H1 rfl rfl fun _ H2 => wl_ <| c_ H2 rfl HS (dcs Tryd.func48 rfl (args1 (H2.ev 8 rfl)) (enct_any _ _ _ l w (HV _ HS.chg) hN hm) (.tuple #[.agg (bs (encT l)), .int .i64 (encE l)])) fun _ HS3 _ H3 => wl_ <| p_ H3 rfl rfl fun _ H4 => wl_ <| i_ H4 rfl (v := .agg (bs (encT l))) (dd_ext rfl (H4.ev 7 rfl) rfl) fun _ H5 => wl_ <| i_ H5 rfl (v := .int .i64 (encE l)) (dd_ext rfl (H5.ev 7 rfl) rfl) fun _ H6 => wl_ <| n_ H6 rfl (fun _ h => dd_new HS3 (bs (zer 32)) rfl (z := .agg (bs (zer 32))) (by kernel_rfl) rfl h) fun g5 _ HS7 _ H7 => wl_ <| t_ rfl (fun _ h => dd_setrow HS7 0 rfl rfl (H7.ev 5 rfl) (H7.ev 10 rfl) (by kernel_rfl) (((size_bs _).trans (length_encT _)) : (bs (encT l)).size = 32) (((size_bs _).trans (length_zer 32)) : (bs (zer 32)).size = 32) (one_bs _) h) fun _ HS8 => ?_
  clear HA0 H1 H2 HS H3 H4 H5 HS3 H6
  refine wl_ <| p_ H7 rfl rfl fun _ H9 => ln_ <| nx <| sq_ <| rl_ <| wl_ <| p_ H9 rfl rfl fun _ H10 => wl_ <| i_ H10 rfl (v := .agg (bs (encT l))) (dd_load HS8 0 0 rfl rfl (H10.ev 5 rfl) (slab_whole _) Tryd.underlying36 rfl (by rw [show (bs (encT l)).size = 32 from ((size_bs _).trans (length_encT _))]; kernel_rfl)) fun _ H11 => wl_ <| i_ H11 rfl (v := .agg (catA [[.int .i64 0], bytesV (encT l)])) (dd_bld rfl (ps := [(0, .int .i64 0), (1, .agg (bs (encT l)))]) (pr1 rfl (pr1 (H11.ev 13 rfl) (pr0))) (Lz := [[.int .i64 0], bytesV (zer 32)]) (by kernel_rfl) (lens_cons rfl (lens_cons (len_bv (length_zer 32)) (lens_nil))) (fit_cons (i := 0) rfl rfl (fit_cons (i := 1) rfl ((size_bs _).trans (length_encT _)) (fit_nil))) (cs := catA [[.int .i64 0], bytesV (encT l)]) rfl) fun _ H12 => wl_ <| n_ H12 rfl (fun _ h => dd_lit1 HS8 (z := .agg (catA [[.int .i64 0], bytesV (zer 32)])) (sz := 33) rfl (H12.ev 14 rfl) Tryd.underlying51 (by kernel_rfl) (cat_size (lens_cons rfl (lens_cons (len_bv (length_encT _)) (lens_nil)))) rfl rfl h) fun g15 _ HS13 _ H13 => wl_ <| a_ H13 rfl (S := fun g16_15 cb16_15 => [⟨g5, 36, bs (encT l)⟩, ⟨g15, 70, catA [[.int .i64 0], bytesV (encT l)]⟩, ⟨g16_15, 70, cb16_15⟩]) (fun g16_15 c16_15 => .slice (some ⟨g16_15, 0, none⟩) 1 c16_15) (T := fun _ c16_15 cb16_15 => OwnC cb16_15 c16_15 1 33 ((catA [[.int .i64 0], bytesV (encT l)]).toList)) (fun _ h => dd_app0 HS13 rfl (H13.ev 12 rfl) (z := .agg (catA [[.int .i64 0], bytesV (zer 32)])) (bytes := 40) (sz := 33) Tryd.underlying51 (by kernel_rfl) rfl (by decide) ((catA [[.int .i64 0], bytesV (encT l)]).toList) (H13.ev 15 rfl) (lenA (cat_size (lens_cons rfl (lens_cons (len_bv (length_encT _)) (lens_nil))))) (row_news (HS13.row 1 rfl) 0 (slabA (slab_whole _))) (all_one (cat_one (ones_cons (ones_c rfl) (ones_cons (one_bytesV _) (ones_nil))))) (by unfold maxLen; omega) (by omega) h) fun g16_15 c16_15 cb16_15 _ O16_15 HS14 _ H14 => wl_ <| p_ H14 rfl rfl fun _ H16 => ln_ <| nx <| wp_ret <| ret_run H16.env0 (res_t Tryd.results35 (H16.get 4 rfl)) <| ?_
  clear HS7 H7 H9 H10 H11 HS8 H12 HS13 H13 H14
  exact ⟨g16_15, c16_15, cb16_15, rfl, put_snoc (P := []) O16_15, ss HS14 [2]⟩
end Go.Proofs.YtnmaplgodimohaaDoor

/- The program's Make. -/
set_option maxRecDepth 4000
namespace Go.Proofs.YtnmaplgodimohaaDoor
open Go Go.RowKit
theorem take_len {u : BitVec 16} {n : Int} (h : takeE u n = 0) (h1 : 1 ≤ n) (h4 : n ≤ 4) : ((takeV u n).length : Int) = n := by
  unfold takeE at h
  unfold takeV
  rw [if_neg (by omega)] at h
  by_cases hl : ((freeL u).length : Int) < n
  · rw [if_pos hl] at h; cases h
  · rw [if_neg (by omega), List.length_take]; omega
theorem take_lenI {u : BitVec 16} {n : Int} {k : Nat} (h : takeE u n = 0) (h1 : 1 ≤ n) (h4 : n ≤ 4) (hk : n = (k : Int)) : (takeV u n).length = k := by have := take_len h h1 h4; omega
theorem take_i64 (l : List Tv) (n : Int) : ∀ x ∈ takeT l n, -9223372036854775808 ≤ x ∧ x < 9223372036854775808 := fun x hx => by
  have := takeV_bound _ _ x hx; omega
theorem vol_snoc (l : List Tv) (q : List (BitVec 8)) (n : Int) : volL l ++ [(strB q, takeT l n)] = volL (makeL l q n) := by simp [volL, makeL]
theorem makeL_small (qb q : List (BitVec 8)) (n : Int) : ∀ x ∈ makeL (decLT qb) q n, x.2.length ≤ 1000000 := fun x hx => by
  unfold makeL at hx
  rcases List.mem_append.1 hx with hx | hx
  · exact decLT_small qb x hx
  · obtain rfl : x = (q, takeT (decLT qb) n) := by simpa using hx
    exact Nat.le_trans (takeV_len _ _) (by decide)
section
variable {l : List Tv} {q : List (BitVec 8)} {n : Int}
theorem make_E0 (hM : mayE l q n = 0) (h : takeE (usedV (volL l)) n = 0) : makeE l q n = 0 := (if_pos hM).trans h
theorem make_E1 (hM : mayE l q n = 0) : makeE l q n = takeE (usedV (volL l)) n := if_pos hM
theorem make_E2 (hM : ¬ mayE l q n = 0) : makeE l q n = mayE l q n := if_neg hM
theorem make_ne (hM : mayE l q n = 0) (h : ¬ takeE (usedV (volL l)) n = 0) : ¬ makeE l q n = 0 := by rw [make_E1 hM]; exact h
theorem make_ne2 (hM : ¬ mayE l q n = 0) : ¬ makeE l q n = 0 := by rw [make_E2 hM]; exact hM
theorem make_P0 (h : ¬ makeE l q n = 0) : makeP l q n = [] := if_neg h
theorem make_P (h : makeE l q n = 0) : makeP l q n = (takeT l n).map (fun b => (b, zer 32)) ++ [(0, encT (makeL l q n))] := if_pos h
end
theorem own_puts {w : World} {B n : Nat} {v : Value} {P P2 : List Pt} (e : P = P2) (hl : P.length = n) (h : w.ownsRow B 70 33 v n (P2.map pcell).flatten) : w.ownsRow B 70 33 v P.length (P.map pcell).flatten := by
  subst e; rw [hl]; exact h
theorem zer_cat {T : List Int} {k : Nat} (hT : T.length = k) (cs : Array Value) (hk : k ≤ 100) (e : cs.toList = ((T.map fun b => ((b, zer 32) : Pt)).map pcell).flatten) : OwnC cs k k 33 ((T.map fun b => ((b, zer 32) : Pt)).map pcell).flatten := by
  have hl : ((T.map fun b => ((b, zer 32) : Pt)).map pcell).flatten.length = k * 33 := by
    rw [len_puts (fun x hx => by obtain ⟨b, _, rfl⟩ := List.mem_map.1 hx; exact length_zer 32), List.length_map, hT]
  exact ⟨Nat.le_refl _, by unfold maxLen; omega, by rw [← Array.length_toList, e, hl], hl, by rw [e, List.take_of_length_le (by rw [hl]; exact Nat.le_refl _)]⟩
theorem own_zeros1 {T : List Int} (hT : T.length = 1) : OwnC (catA [[.int .i64 (T.getD 0 0)], bytesV (zer 32)]) 1 1 33 ((T.map fun b => ((b, zer 32) : Pt)).map pcell).flatten := zer_cat hT _ (by decide) (by
  match T, hT with
  | [a], _ => simp [catA, pcell])
theorem own_zeros2 {T : List Int} (hT : T.length = 2) : OwnC (catA [[.int .i64 (T.getD 0 0)], bytesV (zer 32), [.int .i64 (T.getD 1 0)], bytesV (zer 32)]) 2 2 33 ((T.map fun b => ((b, zer 32) : Pt)).map pcell).flatten := zer_cat hT _ (by decide) (by
  match T, hT with
  | [a, b], _ => simp [catA, pcell])
theorem own_zeros3 {T : List Int} (hT : T.length = 3) : OwnC (catA [[.int .i64 (T.getD 0 0)], bytesV (zer 32), [.int .i64 (T.getD 1 0)], bytesV (zer 32), [.int .i64 (T.getD 2 0)], bytesV (zer 32)]) 3 3 33 ((T.map fun b => ((b, zer 32) : Pt)).map pcell).flatten := zer_cat hT _ (by decide) (by
  match T, hT with
  | [a, b, c], _ => simp [catA, pcell])
theorem own_zeros4 {T : List Int} (hT : T.length = 4) : OwnC (catA [[.int .i64 (T.getD 0 0)], bytesV (zer 32), [.int .i64 (T.getD 1 0)], bytesV (zer 32), [.int .i64 (T.getD 2 0)], bytesV (zer 32), [.int .i64 (T.getD 3 0)], bytesV (zer 32)]) 4 4 33 ((T.map fun b => ((b, zer 32) : Pt)).map pcell).flatten := zer_cat hT _ (by decide) (by
  match T, hT with
  | [a, b, c, d], _ => simp [catA, pcell])
set_option maxHeartbeats 1600000 in
theorem make_ok1 (qb q : List (BitVec 8)) (w : World) (hqb : qb.length = 32) (hq : q.length ≤ maxLen) (hM : mayE (decLT qb) q 1 = 0) : Calls Tryd.prog 25 #[.agg (bs qb), .string (strB q), .int .i64 1] w fun e w' => ∃ v, e = .returned (.tuple #[v, .int .i64 (makeE (decLT qb) q 1)]) ∧ w'.ownsRow w.heap.size 70 33 v (makeP (decLT qb) q 1).length ((makeP (decLT qb) q 1).map pcell).flatten ∧ Below w.heap.size w w' := by
  have HS := St.nil w noF
  refine enter_en Tryd.func25 rfl Tryd.ntmps25 (Nat.le_of_ble_eq_true rfl) fun a0 (HA0 : En 58 [(0, .agg (bs qb)), (1, .string (strB q)), (2, .int .i64 1)] a0) => ?_
  refine sq_ <| rl_ <| wl_ <| n_ HA0 rfl (fun _ h => dd_box HS rfl (HA0.ev 0 rfl) (cs := (bs qb)) rfl h) fun _ W1 HS1 _ H1 => q_ H1 2 rfl fun _ H2 => ln_ <| nx <| sq_ <| rl_ <| ?_
  clear HS HA0 H1
  have hS1 := HS1
  refine wl_ <| i_ H2 rfl (v := .agg (bs qb)) (dd_load HS1 0 0 rfl rfl (H2.ev 3 rfl) (slab_whole _) Tryd.underlying36 rfl (by rw [show (bs qb).size = 32 from ((size_bs _).trans hqb)]; kernel_rfl)) fun _ H3 => ?_
  clear H2
  refine wl_ <| d_ H3 rfl (R := fun v w9 => ∃ A5 N5 C5 Bb5, v = .slice A5 N5 C5 ∧ ((volL (decLT qb)).length = N5 ∧ N5 ≤ 3) ∧ (W1.heap.size ≤ Bb5 ∧ Bb5 ≤ w9.heap.size) ∧ (OV Bb5 w9 (.slice A5 N5 C5) (volL (decLT qb))) ∧ Below W1.heap.size W1 w9) (dc_ Tryd.func32 rfl (args1 (H3.ev 15 rfl)) (volumes_any qb W1 hqb) (fun _ w9 ⟨v9, B9, he, h4, h5, ho, hb⟩ => by obtain ⟨A9, n9, c9, rfl, h1, _⟩ := OV.form2 ho; exact ⟨_, he, A9, n9, c9, B9, rfl, ⟨h1, by rw [← h1, len_volL]; exact decLT_len _⟩, ⟨h4, h5⟩, ho, hb⟩)) ?_
  rintro _ W4 ⟨A5, N5, C5, Bb5, rfl, hNd5, hBb5, hov5, hb4⟩ a4 H4
  have HS4 := HS1.same hb4
  clear H3
  have hln5 : (decLT qb).length = N5 := by rw [← len_volL]; exact hNd5.1
  have HBs6 : Below w.heap.size w W4 := HS4.below
  have HR6_0 := fun (W9 : World) (hb9 : Below W4.heap.size W4 W9) => (HS4.row 0 rfl).call hb9
  have HSb6 := St.nil W4 noF
  clear HS4
  have HVd5 := fun (W9 : World) (hb9 : Below W4.heap.size W4 W9) => ((hov5.vols (Nat.le_trans (Nat.le_of_eq hNd5.1) (Nat.le_trans hNd5.2 (by decide)))).below hb9 (Nat.le_refl _))
  clear HS1 hb4
  refine wl_ <| p_ H4 rfl rfl fun _ H7 => ln_ <| nx <| sq_ <| sq_ <| rl_ <| q_ H7 3 rfl fun _ H8 => wl_ <| c_ H8 rfl HSb6 (v := .int .i64 0) (dc_ Tryd.func33 rfl (args3 (H8.ev 17 rfl) (H8.ev 18 rfl) (H8.ev 19 rfl)) (maymake_any _ _ _ (decLT qb) q 1 W4 (HVd5 _ HSb6.below) (Nat.le_trans hNd5.2 (by decide)) hq) (fun _ w9 h9 => ⟨_, h9.1, by rw [hM], h9.2⟩)) fun W9 HS9 _ H9 => wl_ <| p_ H9 rfl rfl fun _ H10 => ln_ <| nx <| sq_ <| rl_ <| wl_ <| p_ H10 rfl rfl fun _ H11 => wl_ <| i_ H11 rfl (dd_cmp rfl (H11.ev 21 rfl) rfl (ne_f (by decide))) fun _ H12 => ln_ <| nx <| cf_ H12 rfl <| wp_skip <| nx <| sq_ <| rl_ <| q_ H12 2 rfl fun _ H13 => ?_
  clear H4 H7 H8 HSb6 H9 H10 H11 H12
  by_cases hc15 : takeE (usedV (volL (decLT qb))) 1 = 0
  ·
   refine wl_ <| d_ H13 rfl (R := fun v w9 => ∃ gt17 ct17 cbt17, v = .tuple #[.slice (some ⟨gt17, 0, none⟩) 1 ct17, .int .i64 0] ∧ (W9.heap.size ≤ gt17) ∧ (Row w9 gt17 3 cbt17) ∧ (OwnC cbt17 ct17 1 1 (intsV (takeT (decLT qb) 1))) ∧ Below W9.heap.size W9 w9) (dc_ Tryd.func34 rfl (args2 (H13.ev 25 rfl) (H13.ev 26 rfl)) (take_any 1 _ _ _ (volL (decLT qb)) W9 (HVd5 _ HS9.below) (Nat.le_trans hNd5.2 (by decide)) (vols_lenB (decLT_small qb)) (by decide)) (fun _ w9 ⟨v9, he, ho, hb⟩ => by rw [hc15] at he; rw [take_lenI (k := 1) hc15 (by decide) (by decide) rfl] at ho; obtain ⟨g9, c9, cb9, rfl, h1, h2, h3⟩ := ownc_pos ho (by decide); exact ⟨_, he, g9, c9, cb9, rfl, h1, h2, h3, hb⟩)) ?_
   rintro _ W16 ⟨gt17, ct17, cbt17, rfl, hg17, hr17, Ot17, hb16⟩ a16 H16
   have HS16 := HS9.same hb16
   clear H13
   have hT : (takeT (decLT qb) 1).length = 1 := take_lenI hc15 (by decide) (by decide) rfl
   have HS16j : St W4 noF [⟨gt17, 3, cbt17⟩] W16 := HS9.joins hb16 hr17 hg17
   clear HS16 hr17 hg17
   clear HS9 hb16
   refine wl_ <| p_ H16 rfl rfl fun _ H18 => wl_ <| i_ H18 rfl (v := .slice (some ⟨gt17, 0, none⟩) 1 ct17) (dd_ext rfl (H18.ev 24 rfl) rfl) fun _ H19 => wl_ <| i_ H19 rfl (v := .int .i64 0) (dd_ext rfl (H19.ev 24 rfl) rfl) fun _ H20 => q_ H20 2 rfl fun _ H21 => ln_ <| ?_
   clear H16 H18 H19 H20
   have H22 := H21.sel [1, 8, 10, 11] rfl
   refine nx <| sq_ <| sq_ <| rl_ <| wl_ <| p_ H22 rfl rfl fun _ H23 => wl_ <| i_ H23 rfl (dd_cmp rfl (H23.ev 30 rfl) rfl (ne_f (by decide))) fun _ H24 => ln_ <| nx <| cf_ H24 rfl <| wp_skip <| nx <| sq_ <| rl_ <| wl_ <| p_ H24 rfl rfl fun _ H25 => wl_ <| i_ H25 rfl (v := .int .i64 1) (dd_len rfl (H25.ev 33 rfl) Tryd.underlying45) fun _ H26 => wl_ <| n_ H26 rfl (A := fun g35 => .slice (some ⟨g35, 0, none⟩) 1 1) (fun _ h => dd_mk HS16j rfl (H26.ev 34 rfl) (H26.ev 34 rfl) (z := .agg (catA [[.int .i64 0], bytesV (zer 32)])) (sz := 33) (bytes := 40) (cs := catA [[.int .i64 0], bytesV (zer 32)]) Tryd.underlying51 (by kernel_rfl) (by decide) (by decide) (by decide) (by kernel_rfl) h) fun g35 _ HS27 _ H27 => wl_ <| p_ H27 rfl rfl fun _ H28 => ln_ <| nx <| sq_ <| sq_ <| rl_ <| wl_ <| p_ H28 rfl rfl fun _ H29 => wl_ <| i_ H29 rfl (v := .int .i64 1) (dd_len rfl (H29.ev 36 rfl) Tryd.underlying45) fun _ H30 => ?_
   clear H21 H22 H23 H24 H25 HS16j H26 H27 H28
   refine wl_ <| p_ H30 rfl rfl fun _ H31 => ln_ <| nx <| wp_block <| wp_unr 2 <| unr_go <| sq_ <| rl_ <| wl_ <| i_ H31 rfl (dd_cmp rfl (H31.ev 38 rfl) (H31.ev 37 rfl) (lt_t (by decide))) fun _ H32 => ln_ <| nx <| sq_ <| ct_ H32 rfl <| wp_skip <| nx <| sq_ <| wp_block <| sq_ <| rl_ <| wl_ <| p_ H32 rfl rfl fun _ H33 => wl_ <| i_ H33 rfl (xS 1 0 rfl (H33.ev 36 rfl) (H33.ev 38 rfl)) fun _ H34 => wl_ <| i_ H34 rfl (dd_get HS27 0 0 rfl rfl (H34.ev 41 rfl) (own_getI Ot17 0 (by decide)) Tryd.underlying3 rfl) fun _ H35 => q_ H35 2 rfl fun _ H36 => ln_ <| nx <| rl_ <| q_ H36 3 rfl fun _ H37 => wl_ <| i_ H37 rfl (xS 33 0 rfl (H37.ev 43 rfl) (H37.ev 44 rfl)) fun _ H38 => ?_
   clear H29 H30 H31 H32 H33 H34 H35 H36
   refine wl_ <| i_ H38 rfl (xf 0 0 rfl (H38.ev 46 rfl)) fun _ H39 => wl_ <| t_ rfl (S := [⟨gt17, 3, cbt17⟩, ⟨g35, 70, catA [[.int .i64 ((takeT (decLT qb) 1).getD 0 0)], bytesV (zer 32)]⟩]) (fun _ h => dd_put HS27 1 0 rfl rfl (H39.ev 47 rfl) (H39.ev 45 rfl) (by kernel_rfl) rfl rfl (by rw [(cat_size (lens_cons rfl (lens_cons (len_bv (length_zer 32)) (lens_nil))))]; rfl) (cat_put (lens_cons rfl (lens_cons (len_bv (length_zer 32)) (lens_nil))) 0 rfl rfl) h) fun _ HS40 => ln_ <| ?_
   clear H37 H38 HS27
   have H41 := H39.sel [1, 8, 10, 12, 36, 37, 38] rfl
   refine bn <| nx <| rl_ <| wl_ <| i_ H41 rfl (v := .int .i64 1) (dd_ari rfl (H41.ev 38 rfl) rfl rfl (by decide)) fun _ H42 => wl_ <| p_ H42 rfl rfl fun _ H43 => ln_ <| nx <| unr_go <| sq_ <| rl_ <| wl_ <| i_ H43 rfl (dd_cmp rfl (H43.ev 38 rfl) (H43.ev 37 rfl) (lt_f (by decide))) fun _ H44 => ln_ <| nx <| sq_ <| cf_ H44 rfl <| wp_exit <| tx <| tx <| bx <| nx <| sq_ <| rl_ <| q_ H44 3 rfl fun _ H45 => wl_ <| i_ H45 rfl (v := .agg #[.string (strB q), .slice (some ⟨gt17, 0, none⟩) 1 ct17]) (dd_bld rfl (ps := [(0, .string (strB q)), (1, .slice (some ⟨gt17, 0, none⟩) 1 ct17)]) (pr1 (H45.ev 50 rfl) (pr1 (H45.ev 51 rfl) (pr0))) (Lz := [[.string (⟨#[]⟩)], [.slice none 0 0]]) (by kernel_rfl) (lens_cons rfl (lens_cons rfl (lens_nil))) (fit_cons (i := 0) rfl rfl (fit_cons (i := 1) rfl rfl (fit_nil))) (cs := #[.string (strB q), .slice (some ⟨gt17, 0, none⟩) 1 ct17]) rfl) fun _ H46 => wl_ <| n_ H46 rfl (fun _ h => dd_lits HS40 #[.string (strB q), .slice (some ⟨gt17, 0, none⟩) 1 ct17] rfl (ps := [(0, .agg #[.string (strB q), .slice (some ⟨gt17, 0, none⟩) 1 ct17])]) (pr1 (H46.ev 52 rfl) (pr0)) (z := .agg #[.string (⟨#[]⟩), .slice none 0 0]) (sz := 2) Tryd.underlying75 (by kernel_rfl) rfl rfl (by kernel_rfl) h) fun g53 _ HS47 _ H47 => ?_
   clear H39 H41 H42 H43 H44 H45 HS40 H46
   have hzB : Bb5 ≤ g35 := Nat.le_trans hBb5.2 (st_fresh2 HS47 1 rfl)
   refine wl_ <| d_ H47 rfl (R := fun v9 w9 => ∃ Ax : Option Addr, ∃ Nx : Nat, ∃ Cx : Nat, v9 = .slice Ax Nx Cx ∧ ((volL (decLT qb) ++ [(strB q, takeT (decLT qb) 1)]).length = Nx) ∧ (OV Bb5 w9 (.slice Ax Nx Cx) (volL (makeL (decLT qb) q 1))) ∧ St w noF [⟨gt17, 3, cbt17⟩, ⟨g35, 70, catA [[.int .i64 ((takeT (decLT qb) 1).getD 0 0)], bytesV (zer 32)]⟩, ⟨g53, 81, #[.string (strB q), .slice (some ⟨gt17, 0, none⟩) 1 ct17]⟩] w9) (dd_appV (w0 := w) HBs6 (Nat.le_trans hS1.below.size hBb5.1) hBb5.2 HS47 hov5 rfl (H47.ev 49 rfl) (H47.ev 53 rfl) (vol_litM hT (HS47.row 2 rfl) (inV_own hT (ownc_to (HS47.row 0 rfl) Ot17 (Nat.le_trans hBb5.2 (st_fresh2 HS47 0 rfl))) (take_i64 _ _)) (by rw [strB_size]; exact hq)) (by rw [len_volL, hln5]; show _ + 1 ≤ _; omega) (fun v9 w9 h1 h2 => by obtain ⟨A9, n9, c9, rfl, h3, _⟩ := OV.form2 h1; exact ⟨A9, n9, c9, rfl, h3, by rw [vol_snoc] at h1; exact h1, h2⟩)) ?_
   rintro _ W48 ⟨Ax, Nx, Cx, rfl, hNx, hovx, HS48⟩ a48 H48
   clear H47 HS47
   refine wl_ <| p_ H48 rfl rfl fun _ H49 => ln_ <| nx <| sq_ <| rl_ <| q_ H49 2 rfl fun _ H50 => ?_
   clear H48 H49
   have hNx3 : Nx ≤ 4 := by rw [← hNx, List.length_append, len_volL]; exact Nat.succ_le_succ (decLT_len qb)
   refine wl_ <| d_ H50 rfl (R := fun v9 w9 => ∃ gp : Nat, ∃ cp : Nat, ∃ cbp : Array Value, v9 = .slice (some ⟨gp, 0, none⟩) 2 cp ∧ (OwnC cbp cp 2 33 ((((takeT (decLT qb) 1).map (fun b => (b, zer 32)) ++ [(0, encT (makeL (decLT qb) q 1))]).map pcell).flatten)) ∧ St w noF [⟨gp, 70, cbp⟩] w9) (dc_ Tryd.func35 rfl (args2 (H50.ev 55 rfl) (H50.ev 56 rfl)) (withtable_own _ _ _ _ 1 _ (makeL (decLT qb) q 1) ((takeT (decLT qb) 1).map fun b => (b, zer 32)) _ _ _ (ss HS48 [1]).frame (own_zeros1 hT) (fun W9 h9 => (ov_frame hovx (HS48.row 1 rfl) hzB (Nat.le_trans hzB (Nat.le_of_lt (HS48.row 1 rfl).lt)) h9).vols (by have h8 := hNx; rw [vol_snoc] at h8; rw [h8]; exact Nat.le_trans hNx3 (by decide))) (Nat.le_trans hNx3 (by decide)) (makeL_small _ _ _) (by decide)) (fun _ w9 ⟨g9, c9, cb9, he, hO, hS⟩ => ⟨_, he, g9, c9, cb9, rfl, hO, (ss HS48 [1]).unframe hS⟩)) ?_
   rintro _ W51 ⟨gp, cp, cbp, rfl, Op, HS51⟩ a51 H51
   clear H50 HS48
   refine q_ H51 2 rfl fun _ H52 => ln_ <| ?_
   clear H51
   have H53 := H52.sel [6, 7] rfl
   refine nx <| wp_ret <| ret_run H53.env0 (res_tt Tryd.results25 (H53.get 6 rfl) (H53.get 7 rfl)) <| ?_
   clear H52
   have h0 := make_E0 hM hc15
   exact ⟨_, by rw [h0], own_puts (by rw [make_P h0]) (by rw [make_P h0, List.length_append, List.length_map, hT]; rfl) (ownc_to (HS51.row 0 rfl) Op (st_fresh2 HS51 0 rfl)), HS51.below⟩
  refine wl_ <| d_ H13 rfl (R := fun v w9 => ∃ vt55, v = .tuple #[vt55, .int .i64 (takeE (usedV (volL (decLT qb))) 1)] ∧ Below W9.heap.size W9 w9) (dc_ Tryd.func34 rfl (args2 (H13.ev 25 rfl) (H13.ev 26 rfl)) (take_any 1 _ _ _ (volL (decLT qb)) W9 (HVd5 _ HS9.below) (Nat.le_trans hNd5.2 (by decide)) (vols_lenB (decLT_small qb)) (by decide)) (fun _ w9 ⟨v9, he, _, hb⟩ => ⟨_, he, v9, rfl, hb⟩)) ?_
  rintro _ W54 ⟨vt55, rfl, hb54⟩ a54 H54
  have HS54 := HS9.same hb54
  clear H13
  clear HS9 hb54
  refine wl_ <| p_ H54 rfl rfl fun _ H56 => wl_ <| i_ H56 rfl (v := vt55) (dd_ext rfl (H56.ev 24 rfl) rfl) fun _ H57 => wl_ <| i_ H57 rfl (v := .int .i64 (takeE (usedV (volL (decLT qb))) 1)) (dd_ext rfl (H57.ev 24 rfl) rfl) fun _ H58 => q_ H58 2 rfl fun _ H59 => ln_ <| ?_
  clear H54 H56 H57 H58
  have H60 := H59.sel [1, 8, 10, 11] rfl
  refine nx <| sq_ <| sq_ <| rl_ <| wl_ <| p_ H60 rfl rfl fun _ H61 => wl_ <| i_ H61 rfl (dd_cmp rfl (H61.ev 30 rfl) rfl (ne_t hc15)) fun _ H62 => ln_ <| nx <| ct_ H62 rfl <| sq_ <| rl_ <| q_ H62 3 rfl fun _ H63 => ln_ <| nx <| wp_ret <| tr <| ret_run H63.env0 (res_tt Tryd.results25 (H63.get 6 rfl) (H63.get 7 rfl)) <| ?_
  clear H59 H60 H61 H62
  exact ⟨_, by rw [make_E1 hM], by rw [make_P0 (make_ne hM hc15)]; exact World.ownsRow_nil _ _ _ _, (HBs6.trans (HS54.below.mono HBs6.size))⟩
set_option maxHeartbeats 1600000 in
theorem make_ok2 (qb q : List (BitVec 8)) (w : World) (hqb : qb.length = 32) (hq : q.length ≤ maxLen) (hM : mayE (decLT qb) q 2 = 0) : Calls Tryd.prog 25 #[.agg (bs qb), .string (strB q), .int .i64 2] w fun e w' => ∃ v, e = .returned (.tuple #[v, .int .i64 (makeE (decLT qb) q 2)]) ∧ w'.ownsRow w.heap.size 70 33 v (makeP (decLT qb) q 2).length ((makeP (decLT qb) q 2).map pcell).flatten ∧ Below w.heap.size w w' := by
  have HS := St.nil w noF
  refine enter_en Tryd.func25 rfl Tryd.ntmps25 (Nat.le_of_ble_eq_true rfl) fun a0 (HA0 : En 58 [(0, .agg (bs qb)), (1, .string (strB q)), (2, .int .i64 2)] a0) => ?_
  refine sq_ <| rl_ <| wl_ <| n_ HA0 rfl (fun _ h => dd_box HS rfl (HA0.ev 0 rfl) (cs := (bs qb)) rfl h) fun _ W1 HS1 _ H1 => q_ H1 2 rfl fun _ H2 => ln_ <| nx <| sq_ <| rl_ <| ?_
  clear HS HA0 H1
  have hS1 := HS1
  refine wl_ <| i_ H2 rfl (v := .agg (bs qb)) (dd_load HS1 0 0 rfl rfl (H2.ev 3 rfl) (slab_whole _) Tryd.underlying36 rfl (by rw [show (bs qb).size = 32 from ((size_bs _).trans hqb)]; kernel_rfl)) fun _ H3 => ?_
  clear H2
  refine wl_ <| d_ H3 rfl (R := fun v w9 => ∃ A5 N5 C5 Bb5, v = .slice A5 N5 C5 ∧ ((volL (decLT qb)).length = N5 ∧ N5 ≤ 3) ∧ (W1.heap.size ≤ Bb5 ∧ Bb5 ≤ w9.heap.size) ∧ (OV Bb5 w9 (.slice A5 N5 C5) (volL (decLT qb))) ∧ Below W1.heap.size W1 w9) (dc_ Tryd.func32 rfl (args1 (H3.ev 15 rfl)) (volumes_any qb W1 hqb) (fun _ w9 ⟨v9, B9, he, h4, h5, ho, hb⟩ => by obtain ⟨A9, n9, c9, rfl, h1, _⟩ := OV.form2 ho; exact ⟨_, he, A9, n9, c9, B9, rfl, ⟨h1, by rw [← h1, len_volL]; exact decLT_len _⟩, ⟨h4, h5⟩, ho, hb⟩)) ?_
  rintro _ W4 ⟨A5, N5, C5, Bb5, rfl, hNd5, hBb5, hov5, hb4⟩ a4 H4
  have HS4 := HS1.same hb4
  clear H3
  have hln5 : (decLT qb).length = N5 := by rw [← len_volL]; exact hNd5.1
  have HBs6 : Below w.heap.size w W4 := HS4.below
  have HR6_0 := fun (W9 : World) (hb9 : Below W4.heap.size W4 W9) => (HS4.row 0 rfl).call hb9
  have HSb6 := St.nil W4 noF
  clear HS4
  have HVd5 := fun (W9 : World) (hb9 : Below W4.heap.size W4 W9) => ((hov5.vols (Nat.le_trans (Nat.le_of_eq hNd5.1) (Nat.le_trans hNd5.2 (by decide)))).below hb9 (Nat.le_refl _))
  clear HS1 hb4
  refine wl_ <| p_ H4 rfl rfl fun _ H7 => ln_ <| nx <| sq_ <| sq_ <| rl_ <| q_ H7 3 rfl fun _ H8 => wl_ <| c_ H8 rfl HSb6 (v := .int .i64 0) (dc_ Tryd.func33 rfl (args3 (H8.ev 17 rfl) (H8.ev 18 rfl) (H8.ev 19 rfl)) (maymake_any _ _ _ (decLT qb) q 2 W4 (HVd5 _ HSb6.below) (Nat.le_trans hNd5.2 (by decide)) hq) (fun _ w9 h9 => ⟨_, h9.1, by rw [hM], h9.2⟩)) fun W9 HS9 _ H9 => wl_ <| p_ H9 rfl rfl fun _ H10 => ln_ <| nx <| sq_ <| rl_ <| wl_ <| p_ H10 rfl rfl fun _ H11 => wl_ <| i_ H11 rfl (dd_cmp rfl (H11.ev 21 rfl) rfl (ne_f (by decide))) fun _ H12 => ln_ <| nx <| cf_ H12 rfl <| wp_skip <| nx <| sq_ <| rl_ <| q_ H12 2 rfl fun _ H13 => ?_
  clear H4 H7 H8 HSb6 H9 H10 H11 H12
  by_cases hc15 : takeE (usedV (volL (decLT qb))) 2 = 0
  ·
   refine wl_ <| d_ H13 rfl (R := fun v w9 => ∃ gt17 ct17 cbt17, v = .tuple #[.slice (some ⟨gt17, 0, none⟩) 2 ct17, .int .i64 0] ∧ (W9.heap.size ≤ gt17) ∧ (Row w9 gt17 3 cbt17) ∧ (OwnC cbt17 ct17 2 1 (intsV (takeT (decLT qb) 2))) ∧ Below W9.heap.size W9 w9) (dc_ Tryd.func34 rfl (args2 (H13.ev 25 rfl) (H13.ev 26 rfl)) (take_any 2 _ _ _ (volL (decLT qb)) W9 (HVd5 _ HS9.below) (Nat.le_trans hNd5.2 (by decide)) (vols_lenB (decLT_small qb)) (by decide)) (fun _ w9 ⟨v9, he, ho, hb⟩ => by rw [hc15] at he; rw [take_lenI (k := 2) hc15 (by decide) (by decide) rfl] at ho; obtain ⟨g9, c9, cb9, rfl, h1, h2, h3⟩ := ownc_pos ho (by decide); exact ⟨_, he, g9, c9, cb9, rfl, h1, h2, h3, hb⟩)) ?_
   rintro _ W16 ⟨gt17, ct17, cbt17, rfl, hg17, hr17, Ot17, hb16⟩ a16 H16
   have HS16 := HS9.same hb16
   clear H13
   have hT : (takeT (decLT qb) 2).length = 2 := take_lenI hc15 (by decide) (by decide) rfl
   have HS16j : St W4 noF [⟨gt17, 3, cbt17⟩] W16 := HS9.joins hb16 hr17 hg17
   clear HS16 hr17 hg17
   clear HS9 hb16
   refine wl_ <| p_ H16 rfl rfl fun _ H18 => wl_ <| i_ H18 rfl (v := .slice (some ⟨gt17, 0, none⟩) 2 ct17) (dd_ext rfl (H18.ev 24 rfl) rfl) fun _ H19 => wl_ <| i_ H19 rfl (v := .int .i64 0) (dd_ext rfl (H19.ev 24 rfl) rfl) fun _ H20 => q_ H20 2 rfl fun _ H21 => ln_ <| ?_
   clear H16 H18 H19 H20
   have H22 := H21.sel [1, 8, 10, 11] rfl
   refine nx <| sq_ <| sq_ <| rl_ <| wl_ <| p_ H22 rfl rfl fun _ H23 => wl_ <| i_ H23 rfl (dd_cmp rfl (H23.ev 30 rfl) rfl (ne_f (by decide))) fun _ H24 => ln_ <| nx <| cf_ H24 rfl <| wp_skip <| nx <| sq_ <| rl_ <| wl_ <| p_ H24 rfl rfl fun _ H25 => wl_ <| i_ H25 rfl (v := .int .i64 2) (dd_len rfl (H25.ev 33 rfl) Tryd.underlying45) fun _ H26 => wl_ <| n_ H26 rfl (A := fun g35 => .slice (some ⟨g35, 0, none⟩) 2 2) (fun _ h => dd_mk HS16j rfl (H26.ev 34 rfl) (H26.ev 34 rfl) (z := .agg (catA [[.int .i64 0], bytesV (zer 32)])) (sz := 33) (bytes := 40) (cs := catA [[.int .i64 0], bytesV (zer 32), [.int .i64 0], bytesV (zer 32)]) Tryd.underlying51 (by kernel_rfl) (by decide) (by decide) (by decide) (by kernel_rfl) h) fun g35 _ HS27 _ H27 => wl_ <| p_ H27 rfl rfl fun _ H28 => ln_ <| nx <| sq_ <| sq_ <| rl_ <| wl_ <| p_ H28 rfl rfl fun _ H29 => wl_ <| i_ H29 rfl (v := .int .i64 2) (dd_len rfl (H29.ev 36 rfl) Tryd.underlying45) fun _ H30 => ?_
   clear H21 H22 H23 H24 H25 HS16j H26 H27 H28
   refine wl_ <| p_ H30 rfl rfl fun _ H31 => ln_ <| nx <| wp_block <| wp_unr 3 <| unr_go <| sq_ <| rl_ <| wl_ <| i_ H31 rfl (dd_cmp rfl (H31.ev 38 rfl) (H31.ev 37 rfl) (lt_t (by decide))) fun _ H32 => ln_ <| nx <| sq_ <| ct_ H32 rfl <| wp_skip <| nx <| sq_ <| wp_block <| sq_ <| rl_ <| wl_ <| p_ H32 rfl rfl fun _ H33 => wl_ <| i_ H33 rfl (xS 1 0 rfl (H33.ev 36 rfl) (H33.ev 38 rfl)) fun _ H34 => wl_ <| i_ H34 rfl (dd_get HS27 0 0 rfl rfl (H34.ev 41 rfl) (own_getI Ot17 0 (by decide)) Tryd.underlying3 rfl) fun _ H35 => q_ H35 2 rfl fun _ H36 => ln_ <| nx <| rl_ <| q_ H36 3 rfl fun _ H37 => wl_ <| i_ H37 rfl (xS 33 0 rfl (H37.ev 43 rfl) (H37.ev 44 rfl)) fun _ H38 => ?_
   clear H29 H30 H31 H32 H33 H34 H35 H36
   refine wl_ <| i_ H38 rfl (xf 0 0 rfl (H38.ev 46 rfl)) fun _ H39 => wl_ <| t_ rfl (S := [⟨gt17, 3, cbt17⟩, ⟨g35, 70, catA [[.int .i64 ((takeT (decLT qb) 2).getD 0 0)], bytesV (zer 32), [.int .i64 0], bytesV (zer 32)]⟩]) (fun _ h => dd_put HS27 1 0 rfl rfl (H39.ev 47 rfl) (H39.ev 45 rfl) (by kernel_rfl) rfl rfl (by rw [(cat_size (lens_cons rfl (lens_cons (len_bv (length_zer 32)) (lens_cons rfl (lens_cons (len_bv (length_zer 32)) (lens_nil))))))]; rfl) (cat_put (lens_cons rfl (lens_cons (len_bv (length_zer 32)) (lens_cons rfl (lens_cons (len_bv (length_zer 32)) (lens_nil))))) 0 rfl rfl) h) fun _ HS40 => ln_ <| ?_
   clear H37 H38 HS27
   have H41 := H39.sel [1, 8, 10, 12, 36, 37, 38] rfl
   refine bn <| nx <| rl_ <| wl_ <| i_ H41 rfl (v := .int .i64 1) (dd_ari rfl (H41.ev 38 rfl) rfl rfl (by decide)) fun _ H42 => wl_ <| p_ H42 rfl rfl fun _ H43 => ln_ <| nx <| unr_go <| sq_ <| rl_ <| wl_ <| i_ H43 rfl (dd_cmp rfl (H43.ev 38 rfl) (H43.ev 37 rfl) (lt_t (by decide))) fun _ H44 => ln_ <| nx <| sq_ <| ct_ H44 rfl <| wp_skip <| nx <| sq_ <| wp_block <| sq_ <| rl_ <| wl_ <| p_ H44 rfl rfl fun _ H45 => wl_ <| i_ H45 rfl (xS 1 1 rfl (H45.ev 36 rfl) (H45.ev 38 rfl)) fun _ H46 => wl_ <| i_ H46 rfl (dd_get HS40 0 1 rfl rfl (H46.ev 41 rfl) (own_getI Ot17 1 (by decide)) Tryd.underlying3 rfl) fun _ H47 => q_ H47 2 rfl fun _ H48 => ln_ <| nx <| rl_ <| q_ H48 3 rfl fun _ H49 => ?_
   clear H39 H41 H42 H43 H44 H45 H46 H47
   refine wl_ <| i_ H49 rfl (xS 33 33 rfl (H49.ev 43 rfl) (H49.ev 44 rfl)) fun _ H50 => wl_ <| i_ H50 rfl (xf 0 33 rfl (H50.ev 46 rfl)) fun _ H51 => wl_ <| t_ rfl (S := [⟨gt17, 3, cbt17⟩, ⟨g35, 70, catA [[.int .i64 ((takeT (decLT qb) 2).getD 0 0)], bytesV (zer 32), [.int .i64 ((takeT (decLT qb) 2).getD 1 0)], bytesV (zer 32)]⟩]) (fun _ h => dd_put HS40 1 33 rfl rfl (H51.ev 47 rfl) (H51.ev 45 rfl) (by kernel_rfl) rfl rfl (by rw [(cat_size (lens_cons rfl (lens_cons (len_bv (length_zer 32)) (lens_cons rfl (lens_cons (len_bv (length_zer 32)) (lens_nil))))))]; rfl) (cat_put (lens_cons rfl (lens_cons (len_bv (length_zer 32)) (lens_cons rfl (lens_cons (len_bv (length_zer 32)) (lens_nil))))) 2 rfl rfl) h) fun _ HS52 => ln_ <| bn <| nx <| rl_ <| wl_ <| i_ H51 rfl (v := .int .i64 2) (dd_ari rfl (H51.ev 38 rfl) rfl rfl (by decide)) fun _ H53 => wl_ <| p_ H53 rfl rfl fun _ H54 => ln_ <| nx <| unr_go <| sq_ <| rl_ <| wl_ <| i_ H54 rfl (dd_cmp rfl (H54.ev 38 rfl) (H54.ev 37 rfl) (lt_f (by decide))) fun _ H55 => ln_ <| nx <| sq_ <| cf_ H55 rfl <| wp_exit <| tx <| tx <| bx <| nx <| sq_ <| rl_ <| q_ H55 3 rfl fun _ H56 => wl_ <| i_ H56 rfl (v := .agg #[.string (strB q), .slice (some ⟨gt17, 0, none⟩) 2 ct17]) (dd_bld rfl (ps := [(0, .string (strB q)), (1, .slice (some ⟨gt17, 0, none⟩) 2 ct17)]) (pr1 (H56.ev 50 rfl) (pr1 (H56.ev 51 rfl) (pr0))) (Lz := [[.string (⟨#[]⟩)], [.slice none 0 0]]) (by kernel_rfl) (lens_cons rfl (lens_cons rfl (lens_nil))) (fit_cons (i := 0) rfl rfl (fit_cons (i := 1) rfl rfl (fit_nil))) (cs := #[.string (strB q), .slice (some ⟨gt17, 0, none⟩) 2 ct17]) rfl) fun _ H57 => ?_
   clear H48 H49 H50 HS40 H51 H53 H54 H55
   refine wl_ <| n_ H57 rfl (fun _ h => dd_lits HS52 #[.string (strB q), .slice (some ⟨gt17, 0, none⟩) 2 ct17] rfl (ps := [(0, .agg #[.string (strB q), .slice (some ⟨gt17, 0, none⟩) 2 ct17])]) (pr1 (H57.ev 52 rfl) (pr0)) (z := .agg #[.string (⟨#[]⟩), .slice none 0 0]) (sz := 2) Tryd.underlying75 (by kernel_rfl) rfl rfl (by kernel_rfl) h) fun g53 _ HS58 _ H58 => ?_
   clear H56 HS52 H57
   have hzB : Bb5 ≤ g35 := Nat.le_trans hBb5.2 (st_fresh2 HS58 1 rfl)
   refine wl_ <| d_ H58 rfl (R := fun v9 w9 => ∃ Ax : Option Addr, ∃ Nx : Nat, ∃ Cx : Nat, v9 = .slice Ax Nx Cx ∧ ((volL (decLT qb) ++ [(strB q, takeT (decLT qb) 2)]).length = Nx) ∧ (OV Bb5 w9 (.slice Ax Nx Cx) (volL (makeL (decLT qb) q 2))) ∧ St w noF [⟨gt17, 3, cbt17⟩, ⟨g35, 70, catA [[.int .i64 ((takeT (decLT qb) 2).getD 0 0)], bytesV (zer 32), [.int .i64 ((takeT (decLT qb) 2).getD 1 0)], bytesV (zer 32)]⟩, ⟨g53, 81, #[.string (strB q), .slice (some ⟨gt17, 0, none⟩) 2 ct17]⟩] w9) (dd_appV (w0 := w) HBs6 (Nat.le_trans hS1.below.size hBb5.1) hBb5.2 HS58 hov5 rfl (H58.ev 49 rfl) (H58.ev 53 rfl) (vol_litM hT (HS58.row 2 rfl) (inV_own hT (ownc_to (HS58.row 0 rfl) Ot17 (Nat.le_trans hBb5.2 (st_fresh2 HS58 0 rfl))) (take_i64 _ _)) (by rw [strB_size]; exact hq)) (by rw [len_volL, hln5]; show _ + 1 ≤ _; omega) (fun v9 w9 h1 h2 => by obtain ⟨A9, n9, c9, rfl, h3, _⟩ := OV.form2 h1; exact ⟨A9, n9, c9, rfl, h3, by rw [vol_snoc] at h1; exact h1, h2⟩)) ?_
   rintro _ W59 ⟨Ax, Nx, Cx, rfl, hNx, hovx, HS59⟩ a59 H59
   clear H58 HS58
   refine wl_ <| p_ H59 rfl rfl fun _ H60 => ln_ <| ?_
   clear H59
   have H61 := H60.sel [12, 8] rfl
   refine nx <| sq_ <| rl_ <| q_ H61 2 rfl fun _ H62 => ?_
   clear H60 H61
   have hNx3 : Nx ≤ 4 := by rw [← hNx, List.length_append, len_volL]; exact Nat.succ_le_succ (decLT_len qb)
   refine wl_ <| d_ H62 rfl (R := fun v9 w9 => ∃ gp : Nat, ∃ cp : Nat, ∃ cbp : Array Value, v9 = .slice (some ⟨gp, 0, none⟩) 3 cp ∧ (OwnC cbp cp 3 33 ((((takeT (decLT qb) 2).map (fun b => (b, zer 32)) ++ [(0, encT (makeL (decLT qb) q 2))]).map pcell).flatten)) ∧ St w noF [⟨gp, 70, cbp⟩] w9) (dc_ Tryd.func35 rfl (args2 (H62.ev 55 rfl) (H62.ev 56 rfl)) (withtable_own _ _ _ _ 2 _ (makeL (decLT qb) q 2) ((takeT (decLT qb) 2).map fun b => (b, zer 32)) _ _ _ (ss HS59 [1]).frame (own_zeros2 hT) (fun W9 h9 => (ov_frame hovx (HS59.row 1 rfl) hzB (Nat.le_trans hzB (Nat.le_of_lt (HS59.row 1 rfl).lt)) h9).vols (by have h8 := hNx; rw [vol_snoc] at h8; rw [h8]; exact Nat.le_trans hNx3 (by decide))) (Nat.le_trans hNx3 (by decide)) (makeL_small _ _ _) (by decide)) (fun _ w9 ⟨g9, c9, cb9, he, hO, hS⟩ => ⟨_, he, g9, c9, cb9, rfl, hO, (ss HS59 [1]).unframe hS⟩)) ?_
   rintro _ W63 ⟨gp, cp, cbp, rfl, Op, HS63⟩ a63 H63
   clear H62 HS59
   refine q_ H63 2 rfl fun _ H64 => ln_ <| nx <| wp_ret <| ret_run H64.env0 (res_tt Tryd.results25 (H64.get 6 rfl) (H64.get 7 rfl)) <| ?_
   clear H63
   have h0 := make_E0 hM hc15
   exact ⟨_, by rw [h0], own_puts (by rw [make_P h0]) (by rw [make_P h0, List.length_append, List.length_map, hT]; rfl) (ownc_to (HS63.row 0 rfl) Op (st_fresh2 HS63 0 rfl)), HS63.below⟩
  refine wl_ <| d_ H13 rfl (R := fun v w9 => ∃ vt66, v = .tuple #[vt66, .int .i64 (takeE (usedV (volL (decLT qb))) 2)] ∧ Below W9.heap.size W9 w9) (dc_ Tryd.func34 rfl (args2 (H13.ev 25 rfl) (H13.ev 26 rfl)) (take_any 2 _ _ _ (volL (decLT qb)) W9 (HVd5 _ HS9.below) (Nat.le_trans hNd5.2 (by decide)) (vols_lenB (decLT_small qb)) (by decide)) (fun _ w9 ⟨v9, he, _, hb⟩ => ⟨_, he, v9, rfl, hb⟩)) ?_
  rintro _ W65 ⟨vt66, rfl, hb65⟩ a65 H65
  have HS65 := HS9.same hb65
  clear H13
  clear HS9 hb65
  refine wl_ <| p_ H65 rfl rfl fun _ H67 => wl_ <| i_ H67 rfl (v := vt66) (dd_ext rfl (H67.ev 24 rfl) rfl) fun _ H68 => wl_ <| i_ H68 rfl (v := .int .i64 (takeE (usedV (volL (decLT qb))) 2)) (dd_ext rfl (H68.ev 24 rfl) rfl) fun _ H69 => q_ H69 2 rfl fun _ H70 => ln_ <| ?_
  clear H65 H67 H68 H69
  have H71 := H70.sel [1, 8, 10, 11] rfl
  refine nx <| sq_ <| sq_ <| rl_ <| wl_ <| p_ H71 rfl rfl fun _ H72 => wl_ <| i_ H72 rfl (dd_cmp rfl (H72.ev 30 rfl) rfl (ne_t hc15)) fun _ H73 => ln_ <| nx <| ct_ H73 rfl <| sq_ <| rl_ <| q_ H73 3 rfl fun _ H74 => ln_ <| nx <| wp_ret <| tr <| ret_run H74.env0 (res_tt Tryd.results25 (H74.get 6 rfl) (H74.get 7 rfl)) <| ?_
  clear H70 H71 H72 H73
  exact ⟨_, by rw [make_E1 hM], by rw [make_P0 (make_ne hM hc15)]; exact World.ownsRow_nil _ _ _ _, (HBs6.trans (HS65.below.mono HBs6.size))⟩
set_option maxHeartbeats 1600000 in
theorem make_ok3 (qb q : List (BitVec 8)) (w : World) (hqb : qb.length = 32) (hq : q.length ≤ maxLen) (hM : mayE (decLT qb) q 3 = 0) : Calls Tryd.prog 25 #[.agg (bs qb), .string (strB q), .int .i64 3] w fun e w' => ∃ v, e = .returned (.tuple #[v, .int .i64 (makeE (decLT qb) q 3)]) ∧ w'.ownsRow w.heap.size 70 33 v (makeP (decLT qb) q 3).length ((makeP (decLT qb) q 3).map pcell).flatten ∧ Below w.heap.size w w' := by
  have HS := St.nil w noF
  refine enter_en Tryd.func25 rfl Tryd.ntmps25 (Nat.le_of_ble_eq_true rfl) fun a0 (HA0 : En 58 [(0, .agg (bs qb)), (1, .string (strB q)), (2, .int .i64 3)] a0) => ?_
  refine sq_ <| rl_ <| wl_ <| n_ HA0 rfl (fun _ h => dd_box HS rfl (HA0.ev 0 rfl) (cs := (bs qb)) rfl h) fun _ W1 HS1 _ H1 => q_ H1 2 rfl fun _ H2 => ln_ <| nx <| sq_ <| rl_ <| ?_
  clear HS HA0 H1
  have hS1 := HS1
  refine wl_ <| i_ H2 rfl (v := .agg (bs qb)) (dd_load HS1 0 0 rfl rfl (H2.ev 3 rfl) (slab_whole _) Tryd.underlying36 rfl (by rw [show (bs qb).size = 32 from ((size_bs _).trans hqb)]; kernel_rfl)) fun _ H3 => ?_
  clear H2
  refine wl_ <| d_ H3 rfl (R := fun v w9 => ∃ A5 N5 C5 Bb5, v = .slice A5 N5 C5 ∧ ((volL (decLT qb)).length = N5 ∧ N5 ≤ 3) ∧ (W1.heap.size ≤ Bb5 ∧ Bb5 ≤ w9.heap.size) ∧ (OV Bb5 w9 (.slice A5 N5 C5) (volL (decLT qb))) ∧ Below W1.heap.size W1 w9) (dc_ Tryd.func32 rfl (args1 (H3.ev 15 rfl)) (volumes_any qb W1 hqb) (fun _ w9 ⟨v9, B9, he, h4, h5, ho, hb⟩ => by obtain ⟨A9, n9, c9, rfl, h1, _⟩ := OV.form2 ho; exact ⟨_, he, A9, n9, c9, B9, rfl, ⟨h1, by rw [← h1, len_volL]; exact decLT_len _⟩, ⟨h4, h5⟩, ho, hb⟩)) ?_
  rintro _ W4 ⟨A5, N5, C5, Bb5, rfl, hNd5, hBb5, hov5, hb4⟩ a4 H4
  have HS4 := HS1.same hb4
  clear H3
  have hln5 : (decLT qb).length = N5 := by rw [← len_volL]; exact hNd5.1
  have HBs6 : Below w.heap.size w W4 := HS4.below
  have HR6_0 := fun (W9 : World) (hb9 : Below W4.heap.size W4 W9) => (HS4.row 0 rfl).call hb9
  have HSb6 := St.nil W4 noF
  clear HS4
  have HVd5 := fun (W9 : World) (hb9 : Below W4.heap.size W4 W9) => ((hov5.vols (Nat.le_trans (Nat.le_of_eq hNd5.1) (Nat.le_trans hNd5.2 (by decide)))).below hb9 (Nat.le_refl _))
  clear HS1 hb4
  refine wl_ <| p_ H4 rfl rfl fun _ H7 => ln_ <| nx <| sq_ <| sq_ <| rl_ <| q_ H7 3 rfl fun _ H8 => wl_ <| c_ H8 rfl HSb6 (v := .int .i64 0) (dc_ Tryd.func33 rfl (args3 (H8.ev 17 rfl) (H8.ev 18 rfl) (H8.ev 19 rfl)) (maymake_any _ _ _ (decLT qb) q 3 W4 (HVd5 _ HSb6.below) (Nat.le_trans hNd5.2 (by decide)) hq) (fun _ w9 h9 => ⟨_, h9.1, by rw [hM], h9.2⟩)) fun W9 HS9 _ H9 => wl_ <| p_ H9 rfl rfl fun _ H10 => ln_ <| nx <| sq_ <| rl_ <| wl_ <| p_ H10 rfl rfl fun _ H11 => wl_ <| i_ H11 rfl (dd_cmp rfl (H11.ev 21 rfl) rfl (ne_f (by decide))) fun _ H12 => ln_ <| nx <| cf_ H12 rfl <| wp_skip <| nx <| sq_ <| rl_ <| q_ H12 2 rfl fun _ H13 => ?_
  clear H4 H7 H8 HSb6 H9 H10 H11 H12
  by_cases hc15 : takeE (usedV (volL (decLT qb))) 3 = 0
  ·
   refine wl_ <| d_ H13 rfl (R := fun v w9 => ∃ gt17 ct17 cbt17, v = .tuple #[.slice (some ⟨gt17, 0, none⟩) 3 ct17, .int .i64 0] ∧ (W9.heap.size ≤ gt17) ∧ (Row w9 gt17 3 cbt17) ∧ (OwnC cbt17 ct17 3 1 (intsV (takeT (decLT qb) 3))) ∧ Below W9.heap.size W9 w9) (dc_ Tryd.func34 rfl (args2 (H13.ev 25 rfl) (H13.ev 26 rfl)) (take_any 3 _ _ _ (volL (decLT qb)) W9 (HVd5 _ HS9.below) (Nat.le_trans hNd5.2 (by decide)) (vols_lenB (decLT_small qb)) (by decide)) (fun _ w9 ⟨v9, he, ho, hb⟩ => by rw [hc15] at he; rw [take_lenI (k := 3) hc15 (by decide) (by decide) rfl] at ho; obtain ⟨g9, c9, cb9, rfl, h1, h2, h3⟩ := ownc_pos ho (by decide); exact ⟨_, he, g9, c9, cb9, rfl, h1, h2, h3, hb⟩)) ?_
   rintro _ W16 ⟨gt17, ct17, cbt17, rfl, hg17, hr17, Ot17, hb16⟩ a16 H16
   have HS16 := HS9.same hb16
   clear H13
   have hT : (takeT (decLT qb) 3).length = 3 := take_lenI hc15 (by decide) (by decide) rfl
   have HS16j : St W4 noF [⟨gt17, 3, cbt17⟩] W16 := HS9.joins hb16 hr17 hg17
   clear HS16 hr17 hg17
   clear HS9 hb16
   refine wl_ <| p_ H16 rfl rfl fun _ H18 => wl_ <| i_ H18 rfl (v := .slice (some ⟨gt17, 0, none⟩) 3 ct17) (dd_ext rfl (H18.ev 24 rfl) rfl) fun _ H19 => wl_ <| i_ H19 rfl (v := .int .i64 0) (dd_ext rfl (H19.ev 24 rfl) rfl) fun _ H20 => q_ H20 2 rfl fun _ H21 => ln_ <| ?_
   clear H16 H18 H19 H20
   have H22 := H21.sel [1, 8, 10, 11] rfl
   refine nx <| sq_ <| sq_ <| rl_ <| wl_ <| p_ H22 rfl rfl fun _ H23 => wl_ <| i_ H23 rfl (dd_cmp rfl (H23.ev 30 rfl) rfl (ne_f (by decide))) fun _ H24 => ln_ <| nx <| cf_ H24 rfl <| wp_skip <| nx <| sq_ <| rl_ <| wl_ <| p_ H24 rfl rfl fun _ H25 => wl_ <| i_ H25 rfl (v := .int .i64 3) (dd_len rfl (H25.ev 33 rfl) Tryd.underlying45) fun _ H26 => wl_ <| n_ H26 rfl (A := fun g35 => .slice (some ⟨g35, 0, none⟩) 3 3) (fun _ h => dd_mk HS16j rfl (H26.ev 34 rfl) (H26.ev 34 rfl) (z := .agg (catA [[.int .i64 0], bytesV (zer 32)])) (sz := 33) (bytes := 40) (cs := catA [[.int .i64 0], bytesV (zer 32), [.int .i64 0], bytesV (zer 32), [.int .i64 0], bytesV (zer 32)]) Tryd.underlying51 (by kernel_rfl) (by decide) (by decide) (by decide) (by kernel_rfl) h) fun g35 _ HS27 _ H27 => wl_ <| p_ H27 rfl rfl fun _ H28 => ln_ <| nx <| sq_ <| sq_ <| rl_ <| wl_ <| p_ H28 rfl rfl fun _ H29 => wl_ <| i_ H29 rfl (v := .int .i64 3) (dd_len rfl (H29.ev 36 rfl) Tryd.underlying45) fun _ H30 => ?_
   clear H21 H22 H23 H24 H25 HS16j H26 H27 H28
   refine wl_ <| p_ H30 rfl rfl fun _ H31 => ln_ <| nx <| wp_block <| wp_unr 4 <| unr_go <| sq_ <| rl_ <| wl_ <| i_ H31 rfl (dd_cmp rfl (H31.ev 38 rfl) (H31.ev 37 rfl) (lt_t (by decide))) fun _ H32 => ln_ <| nx <| sq_ <| ct_ H32 rfl <| wp_skip <| nx <| sq_ <| wp_block <| sq_ <| rl_ <| wl_ <| p_ H32 rfl rfl fun _ H33 => wl_ <| i_ H33 rfl (xS 1 0 rfl (H33.ev 36 rfl) (H33.ev 38 rfl)) fun _ H34 => wl_ <| i_ H34 rfl (dd_get HS27 0 0 rfl rfl (H34.ev 41 rfl) (own_getI Ot17 0 (by decide)) Tryd.underlying3 rfl) fun _ H35 => q_ H35 2 rfl fun _ H36 => ln_ <| nx <| rl_ <| q_ H36 3 rfl fun _ H37 => wl_ <| i_ H37 rfl (xS 33 0 rfl (H37.ev 43 rfl) (H37.ev 44 rfl)) fun _ H38 => ?_
   clear H29 H30 H31 H32 H33 H34 H35 H36
   refine wl_ <| i_ H38 rfl (xf 0 0 rfl (H38.ev 46 rfl)) fun _ H39 => wl_ <| t_ rfl (S := [⟨gt17, 3, cbt17⟩, ⟨g35, 70, catA [[.int .i64 ((takeT (decLT qb) 3).getD 0 0)], bytesV (zer 32), [.int .i64 0], bytesV (zer 32), [.int .i64 0], bytesV (zer 32)]⟩]) (fun _ h => dd_put HS27 1 0 rfl rfl (H39.ev 47 rfl) (H39.ev 45 rfl) (by kernel_rfl) rfl rfl (by rw [(cat_size (lens_cons rfl (lens_cons (len_bv (length_zer 32)) (lens_cons rfl (lens_cons (len_bv (length_zer 32)) (lens_cons rfl (lens_cons (len_bv (length_zer 32)) (lens_nil))))))))]; rfl) (cat_put (lens_cons rfl (lens_cons (len_bv (length_zer 32)) (lens_cons rfl (lens_cons (len_bv (length_zer 32)) (lens_cons rfl (lens_cons (len_bv (length_zer 32)) (lens_nil))))))) 0 rfl rfl) h) fun _ HS40 => ln_ <| ?_
   clear H37 H38 HS27
   have H41 := H39.sel [1, 8, 10, 12, 36, 37, 38] rfl
   refine bn <| nx <| rl_ <| wl_ <| i_ H41 rfl (v := .int .i64 1) (dd_ari rfl (H41.ev 38 rfl) rfl rfl (by decide)) fun _ H42 => wl_ <| p_ H42 rfl rfl fun _ H43 => ln_ <| nx <| unr_go <| sq_ <| rl_ <| wl_ <| i_ H43 rfl (dd_cmp rfl (H43.ev 38 rfl) (H43.ev 37 rfl) (lt_t (by decide))) fun _ H44 => ln_ <| nx <| sq_ <| ct_ H44 rfl <| wp_skip <| nx <| sq_ <| wp_block <| sq_ <| rl_ <| wl_ <| p_ H44 rfl rfl fun _ H45 => wl_ <| i_ H45 rfl (xS 1 1 rfl (H45.ev 36 rfl) (H45.ev 38 rfl)) fun _ H46 => wl_ <| i_ H46 rfl (dd_get HS40 0 1 rfl rfl (H46.ev 41 rfl) (own_getI Ot17 1 (by decide)) Tryd.underlying3 rfl) fun _ H47 => q_ H47 2 rfl fun _ H48 => ln_ <| nx <| rl_ <| q_ H48 3 rfl fun _ H49 => ?_
   clear H39 H41 H42 H43 H44 H45 H46 H47
   refine wl_ <| i_ H49 rfl (xS 33 33 rfl (H49.ev 43 rfl) (H49.ev 44 rfl)) fun _ H50 => wl_ <| i_ H50 rfl (xf 0 33 rfl (H50.ev 46 rfl)) fun _ H51 => wl_ <| t_ rfl (S := [⟨gt17, 3, cbt17⟩, ⟨g35, 70, catA [[.int .i64 ((takeT (decLT qb) 3).getD 0 0)], bytesV (zer 32), [.int .i64 ((takeT (decLT qb) 3).getD 1 0)], bytesV (zer 32), [.int .i64 0], bytesV (zer 32)]⟩]) (fun _ h => dd_put HS40 1 33 rfl rfl (H51.ev 47 rfl) (H51.ev 45 rfl) (by kernel_rfl) rfl rfl (by rw [(cat_size (lens_cons rfl (lens_cons (len_bv (length_zer 32)) (lens_cons rfl (lens_cons (len_bv (length_zer 32)) (lens_cons rfl (lens_cons (len_bv (length_zer 32)) (lens_nil))))))))]; rfl) (cat_put (lens_cons rfl (lens_cons (len_bv (length_zer 32)) (lens_cons rfl (lens_cons (len_bv (length_zer 32)) (lens_cons rfl (lens_cons (len_bv (length_zer 32)) (lens_nil))))))) 2 rfl rfl) h) fun _ HS52 => ln_ <| bn <| nx <| rl_ <| wl_ <| i_ H51 rfl (v := .int .i64 2) (dd_ari rfl (H51.ev 38 rfl) rfl rfl (by decide)) fun _ H53 => wl_ <| p_ H53 rfl rfl fun _ H54 => ln_ <| nx <| unr_go <| sq_ <| rl_ <| wl_ <| i_ H54 rfl (dd_cmp rfl (H54.ev 38 rfl) (H54.ev 37 rfl) (lt_t (by decide))) fun _ H55 => ln_ <| nx <| sq_ <| ct_ H55 rfl <| wp_skip <| nx <| sq_ <| wp_block <| sq_ <| rl_ <| wl_ <| p_ H55 rfl rfl fun _ H56 => wl_ <| i_ H56 rfl (xS 1 2 rfl (H56.ev 36 rfl) (H56.ev 38 rfl)) fun _ H57 => ?_
   clear H48 H49 H50 HS40 H51 H53 H54 H55
   refine wl_ <| i_ H57 rfl (dd_get HS52 0 2 rfl rfl (H57.ev 41 rfl) (own_getI Ot17 2 (by decide)) Tryd.underlying3 rfl) fun _ H58 => q_ H58 2 rfl fun _ H59 => ln_ <| nx <| rl_ <| q_ H59 3 rfl fun _ H60 => wl_ <| i_ H60 rfl (xS 33 66 rfl (H60.ev 43 rfl) (H60.ev 44 rfl)) fun _ H61 => wl_ <| i_ H61 rfl (xf 0 66 rfl (H61.ev 46 rfl)) fun _ H62 => wl_ <| t_ rfl (S := [⟨gt17, 3, cbt17⟩, ⟨g35, 70, catA [[.int .i64 ((takeT (decLT qb) 3).getD 0 0)], bytesV (zer 32), [.int .i64 ((takeT (decLT qb) 3).getD 1 0)], bytesV (zer 32), [.int .i64 ((takeT (decLT qb) 3).getD 2 0)], bytesV (zer 32)]⟩]) (fun _ h => dd_put HS52 1 66 rfl rfl (H62.ev 47 rfl) (H62.ev 45 rfl) (by kernel_rfl) rfl rfl (by rw [(cat_size (lens_cons rfl (lens_cons (len_bv (length_zer 32)) (lens_cons rfl (lens_cons (len_bv (length_zer 32)) (lens_cons rfl (lens_cons (len_bv (length_zer 32)) (lens_nil))))))))]; rfl) (cat_put (lens_cons rfl (lens_cons (len_bv (length_zer 32)) (lens_cons rfl (lens_cons (len_bv (length_zer 32)) (lens_cons rfl (lens_cons (len_bv (length_zer 32)) (lens_nil))))))) 4 rfl rfl) h) fun _ HS63 => ln_ <| bn <| nx <| rl_ <| wl_ <| i_ H62 rfl (v := .int .i64 3) (dd_ari rfl (H62.ev 38 rfl) rfl rfl (by decide)) fun _ H64 => wl_ <| p_ H64 rfl rfl fun _ H65 => ?_
   clear H56 H57 H58 H59 H60 H61 HS52 H62
   refine ln_ <| nx <| unr_go <| sq_ <| rl_ <| wl_ <| i_ H65 rfl (dd_cmp rfl (H65.ev 38 rfl) (H65.ev 37 rfl) (lt_f (by decide))) fun _ H66 => ln_ <| nx <| sq_ <| cf_ H66 rfl <| wp_exit <| tx <| tx <| bx <| nx <| sq_ <| rl_ <| q_ H66 3 rfl fun _ H67 => wl_ <| i_ H67 rfl (v := .agg #[.string (strB q), .slice (some ⟨gt17, 0, none⟩) 3 ct17]) (dd_bld rfl (ps := [(0, .string (strB q)), (1, .slice (some ⟨gt17, 0, none⟩) 3 ct17)]) (pr1 (H67.ev 50 rfl) (pr1 (H67.ev 51 rfl) (pr0))) (Lz := [[.string (⟨#[]⟩)], [.slice none 0 0]]) (by kernel_rfl) (lens_cons rfl (lens_cons rfl (lens_nil))) (fit_cons (i := 0) rfl rfl (fit_cons (i := 1) rfl rfl (fit_nil))) (cs := #[.string (strB q), .slice (some ⟨gt17, 0, none⟩) 3 ct17]) rfl) fun _ H68 => wl_ <| n_ H68 rfl (fun _ h => dd_lits HS63 #[.string (strB q), .slice (some ⟨gt17, 0, none⟩) 3 ct17] rfl (ps := [(0, .agg #[.string (strB q), .slice (some ⟨gt17, 0, none⟩) 3 ct17])]) (pr1 (H68.ev 52 rfl) (pr0)) (z := .agg #[.string (⟨#[]⟩), .slice none 0 0]) (sz := 2) Tryd.underlying75 (by kernel_rfl) rfl rfl (by kernel_rfl) h) fun g53 _ HS69 _ H69 => ?_
   clear H64 H65 H66 H67 HS63 H68
   have hzB : Bb5 ≤ g35 := Nat.le_trans hBb5.2 (st_fresh2 HS69 1 rfl)
   refine wl_ <| d_ H69 rfl (R := fun v9 w9 => ∃ Ax : Option Addr, ∃ Nx : Nat, ∃ Cx : Nat, v9 = .slice Ax Nx Cx ∧ ((volL (decLT qb) ++ [(strB q, takeT (decLT qb) 3)]).length = Nx) ∧ (OV Bb5 w9 (.slice Ax Nx Cx) (volL (makeL (decLT qb) q 3))) ∧ St w noF [⟨gt17, 3, cbt17⟩, ⟨g35, 70, catA [[.int .i64 ((takeT (decLT qb) 3).getD 0 0)], bytesV (zer 32), [.int .i64 ((takeT (decLT qb) 3).getD 1 0)], bytesV (zer 32), [.int .i64 ((takeT (decLT qb) 3).getD 2 0)], bytesV (zer 32)]⟩, ⟨g53, 81, #[.string (strB q), .slice (some ⟨gt17, 0, none⟩) 3 ct17]⟩] w9) (dd_appV (w0 := w) HBs6 (Nat.le_trans hS1.below.size hBb5.1) hBb5.2 HS69 hov5 rfl (H69.ev 49 rfl) (H69.ev 53 rfl) (vol_litM hT (HS69.row 2 rfl) (inV_own hT (ownc_to (HS69.row 0 rfl) Ot17 (Nat.le_trans hBb5.2 (st_fresh2 HS69 0 rfl))) (take_i64 _ _)) (by rw [strB_size]; exact hq)) (by rw [len_volL, hln5]; show _ + 1 ≤ _; omega) (fun v9 w9 h1 h2 => by obtain ⟨A9, n9, c9, rfl, h3, _⟩ := OV.form2 h1; exact ⟨A9, n9, c9, rfl, h3, by rw [vol_snoc] at h1; exact h1, h2⟩)) ?_
   rintro _ W70 ⟨Ax, Nx, Cx, rfl, hNx, hovx, HS70⟩ a70 H70
   clear H69 HS69
   refine wl_ <| p_ H70 rfl rfl fun _ H71 => ln_ <| ?_
   clear H70
   have H72 := H71.sel [12, 8] rfl
   refine nx <| sq_ <| rl_ <| q_ H72 2 rfl fun _ H73 => ?_
   clear H71 H72
   have hNx3 : Nx ≤ 4 := by rw [← hNx, List.length_append, len_volL]; exact Nat.succ_le_succ (decLT_len qb)
   refine wl_ <| d_ H73 rfl (R := fun v9 w9 => ∃ gp : Nat, ∃ cp : Nat, ∃ cbp : Array Value, v9 = .slice (some ⟨gp, 0, none⟩) 4 cp ∧ (OwnC cbp cp 4 33 ((((takeT (decLT qb) 3).map (fun b => (b, zer 32)) ++ [(0, encT (makeL (decLT qb) q 3))]).map pcell).flatten)) ∧ St w noF [⟨gp, 70, cbp⟩] w9) (dc_ Tryd.func35 rfl (args2 (H73.ev 55 rfl) (H73.ev 56 rfl)) (withtable_own _ _ _ _ 3 _ (makeL (decLT qb) q 3) ((takeT (decLT qb) 3).map fun b => (b, zer 32)) _ _ _ (ss HS70 [1]).frame (own_zeros3 hT) (fun W9 h9 => (ov_frame hovx (HS70.row 1 rfl) hzB (Nat.le_trans hzB (Nat.le_of_lt (HS70.row 1 rfl).lt)) h9).vols (by have h8 := hNx; rw [vol_snoc] at h8; rw [h8]; exact Nat.le_trans hNx3 (by decide))) (Nat.le_trans hNx3 (by decide)) (makeL_small _ _ _) (by decide)) (fun _ w9 ⟨g9, c9, cb9, he, hO, hS⟩ => ⟨_, he, g9, c9, cb9, rfl, hO, (ss HS70 [1]).unframe hS⟩)) ?_
   rintro _ W74 ⟨gp, cp, cbp, rfl, Op, HS74⟩ a74 H74
   clear H73 HS70
   refine q_ H74 2 rfl fun _ H75 => ln_ <| nx <| wp_ret <| ret_run H75.env0 (res_tt Tryd.results25 (H75.get 6 rfl) (H75.get 7 rfl)) <| ?_
   clear H74
   have h0 := make_E0 hM hc15
   exact ⟨_, by rw [h0], own_puts (by rw [make_P h0]) (by rw [make_P h0, List.length_append, List.length_map, hT]; rfl) (ownc_to (HS74.row 0 rfl) Op (st_fresh2 HS74 0 rfl)), HS74.below⟩
  refine wl_ <| d_ H13 rfl (R := fun v w9 => ∃ vt77, v = .tuple #[vt77, .int .i64 (takeE (usedV (volL (decLT qb))) 3)] ∧ Below W9.heap.size W9 w9) (dc_ Tryd.func34 rfl (args2 (H13.ev 25 rfl) (H13.ev 26 rfl)) (take_any 3 _ _ _ (volL (decLT qb)) W9 (HVd5 _ HS9.below) (Nat.le_trans hNd5.2 (by decide)) (vols_lenB (decLT_small qb)) (by decide)) (fun _ w9 ⟨v9, he, _, hb⟩ => ⟨_, he, v9, rfl, hb⟩)) ?_
  rintro _ W76 ⟨vt77, rfl, hb76⟩ a76 H76
  have HS76 := HS9.same hb76
  clear H13
  clear HS9 hb76
  refine wl_ <| p_ H76 rfl rfl fun _ H78 => wl_ <| i_ H78 rfl (v := vt77) (dd_ext rfl (H78.ev 24 rfl) rfl) fun _ H79 => wl_ <| i_ H79 rfl (v := .int .i64 (takeE (usedV (volL (decLT qb))) 3)) (dd_ext rfl (H79.ev 24 rfl) rfl) fun _ H80 => q_ H80 2 rfl fun _ H81 => ln_ <| ?_
  clear H76 H78 H79 H80
  have H82 := H81.sel [1, 8, 10, 11] rfl
  refine nx <| sq_ <| sq_ <| rl_ <| wl_ <| p_ H82 rfl rfl fun _ H83 => wl_ <| i_ H83 rfl (dd_cmp rfl (H83.ev 30 rfl) rfl (ne_t hc15)) fun _ H84 => ln_ <| nx <| ct_ H84 rfl <| sq_ <| rl_ <| q_ H84 3 rfl fun _ H85 => ln_ <| nx <| wp_ret <| tr <| ret_run H85.env0 (res_tt Tryd.results25 (H85.get 6 rfl) (H85.get 7 rfl)) <| ?_
  clear H81 H82 H83 H84
  exact ⟨_, by rw [make_E1 hM], by rw [make_P0 (make_ne hM hc15)]; exact World.ownsRow_nil _ _ _ _, (HBs6.trans (HS76.below.mono HBs6.size))⟩
set_option maxHeartbeats 1600000 in
theorem make_ok4 (qb q : List (BitVec 8)) (w : World) (hqb : qb.length = 32) (hq : q.length ≤ maxLen) (hM : mayE (decLT qb) q 4 = 0) : Calls Tryd.prog 25 #[.agg (bs qb), .string (strB q), .int .i64 4] w fun e w' => ∃ v, e = .returned (.tuple #[v, .int .i64 (makeE (decLT qb) q 4)]) ∧ w'.ownsRow w.heap.size 70 33 v (makeP (decLT qb) q 4).length ((makeP (decLT qb) q 4).map pcell).flatten ∧ Below w.heap.size w w' := by
  have HS := St.nil w noF
  refine enter_en Tryd.func25 rfl Tryd.ntmps25 (Nat.le_of_ble_eq_true rfl) fun a0 (HA0 : En 58 [(0, .agg (bs qb)), (1, .string (strB q)), (2, .int .i64 4)] a0) => ?_
  refine sq_ <| rl_ <| wl_ <| n_ HA0 rfl (fun _ h => dd_box HS rfl (HA0.ev 0 rfl) (cs := (bs qb)) rfl h) fun _ W1 HS1 _ H1 => q_ H1 2 rfl fun _ H2 => ln_ <| nx <| sq_ <| rl_ <| ?_
  clear HS HA0 H1
  have hS1 := HS1
  refine wl_ <| i_ H2 rfl (v := .agg (bs qb)) (dd_load HS1 0 0 rfl rfl (H2.ev 3 rfl) (slab_whole _) Tryd.underlying36 rfl (by rw [show (bs qb).size = 32 from ((size_bs _).trans hqb)]; kernel_rfl)) fun _ H3 => ?_
  clear H2
  refine wl_ <| d_ H3 rfl (R := fun v w9 => ∃ A5 N5 C5 Bb5, v = .slice A5 N5 C5 ∧ ((volL (decLT qb)).length = N5 ∧ N5 ≤ 3) ∧ (W1.heap.size ≤ Bb5 ∧ Bb5 ≤ w9.heap.size) ∧ (OV Bb5 w9 (.slice A5 N5 C5) (volL (decLT qb))) ∧ Below W1.heap.size W1 w9) (dc_ Tryd.func32 rfl (args1 (H3.ev 15 rfl)) (volumes_any qb W1 hqb) (fun _ w9 ⟨v9, B9, he, h4, h5, ho, hb⟩ => by obtain ⟨A9, n9, c9, rfl, h1, _⟩ := OV.form2 ho; exact ⟨_, he, A9, n9, c9, B9, rfl, ⟨h1, by rw [← h1, len_volL]; exact decLT_len _⟩, ⟨h4, h5⟩, ho, hb⟩)) ?_
  rintro _ W4 ⟨A5, N5, C5, Bb5, rfl, hNd5, hBb5, hov5, hb4⟩ a4 H4
  have HS4 := HS1.same hb4
  clear H3
  have hln5 : (decLT qb).length = N5 := by rw [← len_volL]; exact hNd5.1
  have HBs6 : Below w.heap.size w W4 := HS4.below
  have HR6_0 := fun (W9 : World) (hb9 : Below W4.heap.size W4 W9) => (HS4.row 0 rfl).call hb9
  have HSb6 := St.nil W4 noF
  clear HS4
  have HVd5 := fun (W9 : World) (hb9 : Below W4.heap.size W4 W9) => ((hov5.vols (Nat.le_trans (Nat.le_of_eq hNd5.1) (Nat.le_trans hNd5.2 (by decide)))).below hb9 (Nat.le_refl _))
  clear HS1 hb4
  refine wl_ <| p_ H4 rfl rfl fun _ H7 => ln_ <| nx <| sq_ <| sq_ <| rl_ <| q_ H7 3 rfl fun _ H8 => wl_ <| c_ H8 rfl HSb6 (v := .int .i64 0) (dc_ Tryd.func33 rfl (args3 (H8.ev 17 rfl) (H8.ev 18 rfl) (H8.ev 19 rfl)) (maymake_any _ _ _ (decLT qb) q 4 W4 (HVd5 _ HSb6.below) (Nat.le_trans hNd5.2 (by decide)) hq) (fun _ w9 h9 => ⟨_, h9.1, by rw [hM], h9.2⟩)) fun W9 HS9 _ H9 => wl_ <| p_ H9 rfl rfl fun _ H10 => ln_ <| nx <| sq_ <| rl_ <| wl_ <| p_ H10 rfl rfl fun _ H11 => wl_ <| i_ H11 rfl (dd_cmp rfl (H11.ev 21 rfl) rfl (ne_f (by decide))) fun _ H12 => ln_ <| nx <| cf_ H12 rfl <| wp_skip <| nx <| sq_ <| rl_ <| q_ H12 2 rfl fun _ H13 => ?_
  clear H4 H7 H8 HSb6 H9 H10 H11 H12
  by_cases hc15 : takeE (usedV (volL (decLT qb))) 4 = 0
  ·
   refine wl_ <| d_ H13 rfl (R := fun v w9 => ∃ gt17 ct17 cbt17, v = .tuple #[.slice (some ⟨gt17, 0, none⟩) 4 ct17, .int .i64 0] ∧ (W9.heap.size ≤ gt17) ∧ (Row w9 gt17 3 cbt17) ∧ (OwnC cbt17 ct17 4 1 (intsV (takeT (decLT qb) 4))) ∧ Below W9.heap.size W9 w9) (dc_ Tryd.func34 rfl (args2 (H13.ev 25 rfl) (H13.ev 26 rfl)) (take_any 4 _ _ _ (volL (decLT qb)) W9 (HVd5 _ HS9.below) (Nat.le_trans hNd5.2 (by decide)) (vols_lenB (decLT_small qb)) (by decide)) (fun _ w9 ⟨v9, he, ho, hb⟩ => by rw [hc15] at he; rw [take_lenI (k := 4) hc15 (by decide) (by decide) rfl] at ho; obtain ⟨g9, c9, cb9, rfl, h1, h2, h3⟩ := ownc_pos ho (by decide); exact ⟨_, he, g9, c9, cb9, rfl, h1, h2, h3, hb⟩)) ?_
   rintro _ W16 ⟨gt17, ct17, cbt17, rfl, hg17, hr17, Ot17, hb16⟩ a16 H16
   have HS16 := HS9.same hb16
   clear H13
   have hT : (takeT (decLT qb) 4).length = 4 := take_lenI hc15 (by decide) (by decide) rfl
   have HS16j : St W4 noF [⟨gt17, 3, cbt17⟩] W16 := HS9.joins hb16 hr17 hg17
   clear HS16 hr17 hg17
   clear HS9 hb16
   refine wl_ <| p_ H16 rfl rfl fun _ H18 => wl_ <| i_ H18 rfl (v := .slice (some ⟨gt17, 0, none⟩) 4 ct17) (dd_ext rfl (H18.ev 24 rfl) rfl) fun _ H19 => wl_ <| i_ H19 rfl (v := .int .i64 0) (dd_ext rfl (H19.ev 24 rfl) rfl) fun _ H20 => q_ H20 2 rfl fun _ H21 => ln_ <| ?_
   clear H16 H18 H19 H20
   have H22 := H21.sel [1, 8, 10, 11] rfl
   refine nx <| sq_ <| sq_ <| rl_ <| wl_ <| p_ H22 rfl rfl fun _ H23 => wl_ <| i_ H23 rfl (dd_cmp rfl (H23.ev 30 rfl) rfl (ne_f (by decide))) fun _ H24 => ln_ <| nx <| cf_ H24 rfl <| wp_skip <| nx <| sq_ <| rl_ <| wl_ <| p_ H24 rfl rfl fun _ H25 => wl_ <| i_ H25 rfl (v := .int .i64 4) (dd_len rfl (H25.ev 33 rfl) Tryd.underlying45) fun _ H26 => wl_ <| n_ H26 rfl (A := fun g35 => .slice (some ⟨g35, 0, none⟩) 4 4) (fun _ h => dd_mk HS16j rfl (H26.ev 34 rfl) (H26.ev 34 rfl) (z := .agg (catA [[.int .i64 0], bytesV (zer 32)])) (sz := 33) (bytes := 40) (cs := catA [[.int .i64 0], bytesV (zer 32), [.int .i64 0], bytesV (zer 32), [.int .i64 0], bytesV (zer 32), [.int .i64 0], bytesV (zer 32)]) Tryd.underlying51 (by kernel_rfl) (by decide) (by decide) (by decide) (by kernel_rfl) h) fun g35 _ HS27 _ H27 => wl_ <| p_ H27 rfl rfl fun _ H28 => ln_ <| nx <| sq_ <| sq_ <| rl_ <| wl_ <| p_ H28 rfl rfl fun _ H29 => wl_ <| i_ H29 rfl (v := .int .i64 4) (dd_len rfl (H29.ev 36 rfl) Tryd.underlying45) fun _ H30 => ?_
   clear H21 H22 H23 H24 H25 HS16j H26 H27 H28
   refine wl_ <| p_ H30 rfl rfl fun _ H31 => ln_ <| nx <| wp_block <| wp_unr 5 <| unr_go <| sq_ <| rl_ <| wl_ <| i_ H31 rfl (dd_cmp rfl (H31.ev 38 rfl) (H31.ev 37 rfl) (lt_t (by decide))) fun _ H32 => ln_ <| nx <| sq_ <| ct_ H32 rfl <| wp_skip <| nx <| sq_ <| wp_block <| sq_ <| rl_ <| wl_ <| p_ H32 rfl rfl fun _ H33 => wl_ <| i_ H33 rfl (xS 1 0 rfl (H33.ev 36 rfl) (H33.ev 38 rfl)) fun _ H34 => wl_ <| i_ H34 rfl (dd_get HS27 0 0 rfl rfl (H34.ev 41 rfl) (own_getI Ot17 0 (by decide)) Tryd.underlying3 rfl) fun _ H35 => q_ H35 2 rfl fun _ H36 => ln_ <| nx <| rl_ <| q_ H36 3 rfl fun _ H37 => wl_ <| i_ H37 rfl (xS 33 0 rfl (H37.ev 43 rfl) (H37.ev 44 rfl)) fun _ H38 => ?_
   clear H29 H30 H31 H32 H33 H34 H35 H36
   refine wl_ <| i_ H38 rfl (xf 0 0 rfl (H38.ev 46 rfl)) fun _ H39 => wl_ <| t_ rfl (S := [⟨gt17, 3, cbt17⟩, ⟨g35, 70, catA [[.int .i64 ((takeT (decLT qb) 4).getD 0 0)], bytesV (zer 32), [.int .i64 0], bytesV (zer 32), [.int .i64 0], bytesV (zer 32), [.int .i64 0], bytesV (zer 32)]⟩]) (fun _ h => dd_put HS27 1 0 rfl rfl (H39.ev 47 rfl) (H39.ev 45 rfl) (by kernel_rfl) rfl rfl (by rw [(cat_size (lens_cons rfl (lens_cons (len_bv (length_zer 32)) (lens_cons rfl (lens_cons (len_bv (length_zer 32)) (lens_cons rfl (lens_cons (len_bv (length_zer 32)) (lens_cons rfl (lens_cons (len_bv (length_zer 32)) (lens_nil))))))))))]; rfl) (cat_put (lens_cons rfl (lens_cons (len_bv (length_zer 32)) (lens_cons rfl (lens_cons (len_bv (length_zer 32)) (lens_cons rfl (lens_cons (len_bv (length_zer 32)) (lens_cons rfl (lens_cons (len_bv (length_zer 32)) (lens_nil))))))))) 0 rfl rfl) h) fun _ HS40 => ln_ <| ?_
   clear H37 H38 HS27
   have H41 := H39.sel [1, 8, 10, 12, 36, 37, 38] rfl
   refine bn <| nx <| rl_ <| wl_ <| i_ H41 rfl (v := .int .i64 1) (dd_ari rfl (H41.ev 38 rfl) rfl rfl (by decide)) fun _ H42 => wl_ <| p_ H42 rfl rfl fun _ H43 => ln_ <| nx <| unr_go <| sq_ <| rl_ <| wl_ <| i_ H43 rfl (dd_cmp rfl (H43.ev 38 rfl) (H43.ev 37 rfl) (lt_t (by decide))) fun _ H44 => ln_ <| nx <| sq_ <| ct_ H44 rfl <| wp_skip <| nx <| sq_ <| wp_block <| sq_ <| rl_ <| wl_ <| p_ H44 rfl rfl fun _ H45 => wl_ <| i_ H45 rfl (xS 1 1 rfl (H45.ev 36 rfl) (H45.ev 38 rfl)) fun _ H46 => wl_ <| i_ H46 rfl (dd_get HS40 0 1 rfl rfl (H46.ev 41 rfl) (own_getI Ot17 1 (by decide)) Tryd.underlying3 rfl) fun _ H47 => q_ H47 2 rfl fun _ H48 => ln_ <| nx <| rl_ <| q_ H48 3 rfl fun _ H49 => ?_
   clear H39 H41 H42 H43 H44 H45 H46 H47
   refine wl_ <| i_ H49 rfl (xS 33 33 rfl (H49.ev 43 rfl) (H49.ev 44 rfl)) fun _ H50 => wl_ <| i_ H50 rfl (xf 0 33 rfl (H50.ev 46 rfl)) fun _ H51 => wl_ <| t_ rfl (S := [⟨gt17, 3, cbt17⟩, ⟨g35, 70, catA [[.int .i64 ((takeT (decLT qb) 4).getD 0 0)], bytesV (zer 32), [.int .i64 ((takeT (decLT qb) 4).getD 1 0)], bytesV (zer 32), [.int .i64 0], bytesV (zer 32), [.int .i64 0], bytesV (zer 32)]⟩]) (fun _ h => dd_put HS40 1 33 rfl rfl (H51.ev 47 rfl) (H51.ev 45 rfl) (by kernel_rfl) rfl rfl (by rw [(cat_size (lens_cons rfl (lens_cons (len_bv (length_zer 32)) (lens_cons rfl (lens_cons (len_bv (length_zer 32)) (lens_cons rfl (lens_cons (len_bv (length_zer 32)) (lens_cons rfl (lens_cons (len_bv (length_zer 32)) (lens_nil))))))))))]; rfl) (cat_put (lens_cons rfl (lens_cons (len_bv (length_zer 32)) (lens_cons rfl (lens_cons (len_bv (length_zer 32)) (lens_cons rfl (lens_cons (len_bv (length_zer 32)) (lens_cons rfl (lens_cons (len_bv (length_zer 32)) (lens_nil))))))))) 2 rfl rfl) h) fun _ HS52 => ln_ <| bn <| nx <| rl_ <| wl_ <| i_ H51 rfl (v := .int .i64 2) (dd_ari rfl (H51.ev 38 rfl) rfl rfl (by decide)) fun _ H53 => wl_ <| p_ H53 rfl rfl fun _ H54 => ln_ <| nx <| unr_go <| sq_ <| rl_ <| wl_ <| i_ H54 rfl (dd_cmp rfl (H54.ev 38 rfl) (H54.ev 37 rfl) (lt_t (by decide))) fun _ H55 => ln_ <| nx <| sq_ <| ct_ H55 rfl <| wp_skip <| nx <| sq_ <| wp_block <| sq_ <| rl_ <| wl_ <| p_ H55 rfl rfl fun _ H56 => wl_ <| i_ H56 rfl (xS 1 2 rfl (H56.ev 36 rfl) (H56.ev 38 rfl)) fun _ H57 => ?_
   clear H48 H49 H50 HS40 H51 H53 H54 H55
   refine wl_ <| i_ H57 rfl (dd_get HS52 0 2 rfl rfl (H57.ev 41 rfl) (own_getI Ot17 2 (by decide)) Tryd.underlying3 rfl) fun _ H58 => q_ H58 2 rfl fun _ H59 => ln_ <| nx <| rl_ <| q_ H59 3 rfl fun _ H60 => wl_ <| i_ H60 rfl (xS 33 66 rfl (H60.ev 43 rfl) (H60.ev 44 rfl)) fun _ H61 => wl_ <| i_ H61 rfl (xf 0 66 rfl (H61.ev 46 rfl)) fun _ H62 => wl_ <| t_ rfl (S := [⟨gt17, 3, cbt17⟩, ⟨g35, 70, catA [[.int .i64 ((takeT (decLT qb) 4).getD 0 0)], bytesV (zer 32), [.int .i64 ((takeT (decLT qb) 4).getD 1 0)], bytesV (zer 32), [.int .i64 ((takeT (decLT qb) 4).getD 2 0)], bytesV (zer 32), [.int .i64 0], bytesV (zer 32)]⟩]) (fun _ h => dd_put HS52 1 66 rfl rfl (H62.ev 47 rfl) (H62.ev 45 rfl) (by kernel_rfl) rfl rfl (by rw [(cat_size (lens_cons rfl (lens_cons (len_bv (length_zer 32)) (lens_cons rfl (lens_cons (len_bv (length_zer 32)) (lens_cons rfl (lens_cons (len_bv (length_zer 32)) (lens_cons rfl (lens_cons (len_bv (length_zer 32)) (lens_nil))))))))))]; rfl) (cat_put (lens_cons rfl (lens_cons (len_bv (length_zer 32)) (lens_cons rfl (lens_cons (len_bv (length_zer 32)) (lens_cons rfl (lens_cons (len_bv (length_zer 32)) (lens_cons rfl (lens_cons (len_bv (length_zer 32)) (lens_nil))))))))) 4 rfl rfl) h) fun _ HS63 => ln_ <| bn <| nx <| rl_ <| wl_ <| i_ H62 rfl (v := .int .i64 3) (dd_ari rfl (H62.ev 38 rfl) rfl rfl (by decide)) fun _ H64 => wl_ <| p_ H64 rfl rfl fun _ H65 => ?_
   clear H56 H57 H58 H59 H60 H61 HS52 H62
   refine ln_ <| nx <| unr_go <| sq_ <| rl_ <| wl_ <| i_ H65 rfl (dd_cmp rfl (H65.ev 38 rfl) (H65.ev 37 rfl) (lt_t (by decide))) fun _ H66 => ln_ <| nx <| sq_ <| ct_ H66 rfl <| wp_skip <| nx <| sq_ <| wp_block <| sq_ <| rl_ <| wl_ <| p_ H66 rfl rfl fun _ H67 => wl_ <| i_ H67 rfl (xS 1 3 rfl (H67.ev 36 rfl) (H67.ev 38 rfl)) fun _ H68 => wl_ <| i_ H68 rfl (dd_get HS63 0 3 rfl rfl (H68.ev 41 rfl) (own_getI Ot17 3 (by decide)) Tryd.underlying3 rfl) fun _ H69 => q_ H69 2 rfl fun _ H70 => ln_ <| nx <| rl_ <| q_ H70 3 rfl fun _ H71 => wl_ <| i_ H71 rfl (xS 33 99 rfl (H71.ev 43 rfl) (H71.ev 44 rfl)) fun _ H72 => wl_ <| i_ H72 rfl (xf 0 99 rfl (H72.ev 46 rfl)) fun _ H73 => ?_
   clear H64 H65 H66 H67 H68 H69 H70 H71
   refine wl_ <| t_ rfl (S := [⟨gt17, 3, cbt17⟩, ⟨g35, 70, catA [[.int .i64 ((takeT (decLT qb) 4).getD 0 0)], bytesV (zer 32), [.int .i64 ((takeT (decLT qb) 4).getD 1 0)], bytesV (zer 32), [.int .i64 ((takeT (decLT qb) 4).getD 2 0)], bytesV (zer 32), [.int .i64 ((takeT (decLT qb) 4).getD 3 0)], bytesV (zer 32)]⟩]) (fun _ h => dd_put HS63 1 99 rfl rfl (H73.ev 47 rfl) (H73.ev 45 rfl) (by kernel_rfl) rfl rfl (by rw [(cat_size (lens_cons rfl (lens_cons (len_bv (length_zer 32)) (lens_cons rfl (lens_cons (len_bv (length_zer 32)) (lens_cons rfl (lens_cons (len_bv (length_zer 32)) (lens_cons rfl (lens_cons (len_bv (length_zer 32)) (lens_nil))))))))))]; rfl) (cat_put (lens_cons rfl (lens_cons (len_bv (length_zer 32)) (lens_cons rfl (lens_cons (len_bv (length_zer 32)) (lens_cons rfl (lens_cons (len_bv (length_zer 32)) (lens_cons rfl (lens_cons (len_bv (length_zer 32)) (lens_nil))))))))) 6 rfl rfl) h) fun _ HS74 => ln_ <| bn <| nx <| rl_ <| wl_ <| i_ H73 rfl (v := .int .i64 4) (dd_ari rfl (H73.ev 38 rfl) rfl rfl (by decide)) fun _ H75 => wl_ <| p_ H75 rfl rfl fun _ H76 => ln_ <| nx <| unr_go <| sq_ <| rl_ <| wl_ <| i_ H76 rfl (dd_cmp rfl (H76.ev 38 rfl) (H76.ev 37 rfl) (lt_f (by decide))) fun _ H77 => ln_ <| nx <| sq_ <| cf_ H77 rfl <| wp_exit <| tx <| tx <| bx <| nx <| sq_ <| rl_ <| q_ H77 3 rfl fun _ H78 => wl_ <| i_ H78 rfl (v := .agg #[.string (strB q), .slice (some ⟨gt17, 0, none⟩) 4 ct17]) (dd_bld rfl (ps := [(0, .string (strB q)), (1, .slice (some ⟨gt17, 0, none⟩) 4 ct17)]) (pr1 (H78.ev 50 rfl) (pr1 (H78.ev 51 rfl) (pr0))) (Lz := [[.string (⟨#[]⟩)], [.slice none 0 0]]) (by kernel_rfl) (lens_cons rfl (lens_cons rfl (lens_nil))) (fit_cons (i := 0) rfl rfl (fit_cons (i := 1) rfl rfl (fit_nil))) (cs := #[.string (strB q), .slice (some ⟨gt17, 0, none⟩) 4 ct17]) rfl) fun _ H79 => wl_ <| n_ H79 rfl (fun _ h => dd_lits HS74 #[.string (strB q), .slice (some ⟨gt17, 0, none⟩) 4 ct17] rfl (ps := [(0, .agg #[.string (strB q), .slice (some ⟨gt17, 0, none⟩) 4 ct17])]) (pr1 (H79.ev 52 rfl) (pr0)) (z := .agg #[.string (⟨#[]⟩), .slice none 0 0]) (sz := 2) Tryd.underlying75 (by kernel_rfl) rfl rfl (by kernel_rfl) h) fun g53 _ HS80 _ H80 => ?_
   clear H72 HS63 H73 H75 H76 H77 H78 HS74 H79
   have hzB : Bb5 ≤ g35 := Nat.le_trans hBb5.2 (st_fresh2 HS80 1 rfl)
   refine wl_ <| d_ H80 rfl (R := fun v9 w9 => ∃ Ax : Option Addr, ∃ Nx : Nat, ∃ Cx : Nat, v9 = .slice Ax Nx Cx ∧ ((volL (decLT qb) ++ [(strB q, takeT (decLT qb) 4)]).length = Nx) ∧ (OV Bb5 w9 (.slice Ax Nx Cx) (volL (makeL (decLT qb) q 4))) ∧ St w noF [⟨gt17, 3, cbt17⟩, ⟨g35, 70, catA [[.int .i64 ((takeT (decLT qb) 4).getD 0 0)], bytesV (zer 32), [.int .i64 ((takeT (decLT qb) 4).getD 1 0)], bytesV (zer 32), [.int .i64 ((takeT (decLT qb) 4).getD 2 0)], bytesV (zer 32), [.int .i64 ((takeT (decLT qb) 4).getD 3 0)], bytesV (zer 32)]⟩, ⟨g53, 81, #[.string (strB q), .slice (some ⟨gt17, 0, none⟩) 4 ct17]⟩] w9) (dd_appV (w0 := w) HBs6 (Nat.le_trans hS1.below.size hBb5.1) hBb5.2 HS80 hov5 rfl (H80.ev 49 rfl) (H80.ev 53 rfl) (vol_litM hT (HS80.row 2 rfl) (inV_own hT (ownc_to (HS80.row 0 rfl) Ot17 (Nat.le_trans hBb5.2 (st_fresh2 HS80 0 rfl))) (take_i64 _ _)) (by rw [strB_size]; exact hq)) (by rw [len_volL, hln5]; show _ + 1 ≤ _; omega) (fun v9 w9 h1 h2 => by obtain ⟨A9, n9, c9, rfl, h3, _⟩ := OV.form2 h1; exact ⟨A9, n9, c9, rfl, h3, by rw [vol_snoc] at h1; exact h1, h2⟩)) ?_
   rintro _ W81 ⟨Ax, Nx, Cx, rfl, hNx, hovx, HS81⟩ a81 H81
   clear H80 HS80
   refine wl_ <| p_ H81 rfl rfl fun _ H82 => ln_ <| ?_
   clear H81
   have H83 := H82.sel [12, 8] rfl
   refine nx <| sq_ <| rl_ <| q_ H83 2 rfl fun _ H84 => ?_
   clear H82 H83
   have hNx3 : Nx ≤ 4 := by rw [← hNx, List.length_append, len_volL]; exact Nat.succ_le_succ (decLT_len qb)
   refine wl_ <| d_ H84 rfl (R := fun v9 w9 => ∃ gp : Nat, ∃ cp : Nat, ∃ cbp : Array Value, v9 = .slice (some ⟨gp, 0, none⟩) 5 cp ∧ (OwnC cbp cp 5 33 ((((takeT (decLT qb) 4).map (fun b => (b, zer 32)) ++ [(0, encT (makeL (decLT qb) q 4))]).map pcell).flatten)) ∧ St w noF [⟨gp, 70, cbp⟩] w9) (dc_ Tryd.func35 rfl (args2 (H84.ev 55 rfl) (H84.ev 56 rfl)) (withtable_own _ _ _ _ 4 _ (makeL (decLT qb) q 4) ((takeT (decLT qb) 4).map fun b => (b, zer 32)) _ _ _ (ss HS81 [1]).frame (own_zeros4 hT) (fun W9 h9 => (ov_frame hovx (HS81.row 1 rfl) hzB (Nat.le_trans hzB (Nat.le_of_lt (HS81.row 1 rfl).lt)) h9).vols (by have h8 := hNx; rw [vol_snoc] at h8; rw [h8]; exact Nat.le_trans hNx3 (by decide))) (Nat.le_trans hNx3 (by decide)) (makeL_small _ _ _) (by decide)) (fun _ w9 ⟨g9, c9, cb9, he, hO, hS⟩ => ⟨_, he, g9, c9, cb9, rfl, hO, (ss HS81 [1]).unframe hS⟩)) ?_
   rintro _ W85 ⟨gp, cp, cbp, rfl, Op, HS85⟩ a85 H85
   clear H84 HS81
   refine q_ H85 2 rfl fun _ H86 => ln_ <| nx <| wp_ret <| ret_run H86.env0 (res_tt Tryd.results25 (H86.get 6 rfl) (H86.get 7 rfl)) <| ?_
   clear H85
   have h0 := make_E0 hM hc15
   exact ⟨_, by rw [h0], own_puts (by rw [make_P h0]) (by rw [make_P h0, List.length_append, List.length_map, hT]; rfl) (ownc_to (HS85.row 0 rfl) Op (st_fresh2 HS85 0 rfl)), HS85.below⟩
  refine wl_ <| d_ H13 rfl (R := fun v w9 => ∃ vt88, v = .tuple #[vt88, .int .i64 (takeE (usedV (volL (decLT qb))) 4)] ∧ Below W9.heap.size W9 w9) (dc_ Tryd.func34 rfl (args2 (H13.ev 25 rfl) (H13.ev 26 rfl)) (take_any 4 _ _ _ (volL (decLT qb)) W9 (HVd5 _ HS9.below) (Nat.le_trans hNd5.2 (by decide)) (vols_lenB (decLT_small qb)) (by decide)) (fun _ w9 ⟨v9, he, _, hb⟩ => ⟨_, he, v9, rfl, hb⟩)) ?_
  rintro _ W87 ⟨vt88, rfl, hb87⟩ a87 H87
  have HS87 := HS9.same hb87
  clear H13
  clear HS9 hb87
  refine wl_ <| p_ H87 rfl rfl fun _ H89 => wl_ <| i_ H89 rfl (v := vt88) (dd_ext rfl (H89.ev 24 rfl) rfl) fun _ H90 => wl_ <| i_ H90 rfl (v := .int .i64 (takeE (usedV (volL (decLT qb))) 4)) (dd_ext rfl (H90.ev 24 rfl) rfl) fun _ H91 => q_ H91 2 rfl fun _ H92 => ln_ <| ?_
  clear H87 H89 H90 H91
  have H93 := H92.sel [1, 8, 10, 11] rfl
  refine nx <| sq_ <| sq_ <| rl_ <| wl_ <| p_ H93 rfl rfl fun _ H94 => wl_ <| i_ H94 rfl (dd_cmp rfl (H94.ev 30 rfl) rfl (ne_t hc15)) fun _ H95 => ln_ <| nx <| ct_ H95 rfl <| sq_ <| rl_ <| q_ H95 3 rfl fun _ H96 => ln_ <| nx <| wp_ret <| tr <| ret_run H96.env0 (res_tt Tryd.results25 (H96.get 6 rfl) (H96.get 7 rfl)) <| ?_
  clear H92 H93 H94 H95
  exact ⟨_, by rw [make_E1 hM], by rw [make_P0 (make_ne hM hc15)]; exact World.ownsRow_nil _ _ _ _, (HBs6.trans (HS87.below.mono HBs6.size))⟩
theorem make_any (qb q : List (BitVec 8)) (n : Int) (w : World) (hqb : qb.length = 32) (hq : q.length ≤ maxLen) : Calls Tryd.prog 25 #[.agg (bs qb), .string (strB q), .int .i64 n] w fun e w' => ∃ v, e = .returned (.tuple #[v, .int .i64 (makeE (decLT qb) q n)]) ∧ w'.ownsRow w.heap.size 70 33 v (makeP (decLT qb) q n).length ((makeP (decLT qb) q n).map pcell).flatten ∧ Below w.heap.size w w' := by
  by_cases hM : mayE (decLT qb) q n = 0
  · obtain ⟨_, _, h1, h4, _⟩ := may_of0 hM
    rcases (by omega : n = 1 ∨ n = 2 ∨ n = 3 ∨ n = 4) with rfl | rfl | rfl | rfl
    · exact make_ok1 qb q w hqb hq hM
    · exact make_ok2 qb q w hqb hq hM
    · exact make_ok3 qb q w hqb hq hM
    · exact make_ok4 qb q w hqb hq hM
  have HS := St.nil w noF
  refine enter_en Tryd.func25 rfl Tryd.ntmps25 (Nat.le_of_ble_eq_true rfl) fun a0 (HA0 : En 58 [(0, .agg (bs qb)), (1, .string (strB q)), (2, .int .i64 n)] a0) => ?_
  refine sq_ <| rl_ <| wl_ <| n_ HA0 rfl (fun _ h => dd_box HS rfl (HA0.ev 0 rfl) (cs := (bs qb)) rfl h) fun _ W1 HS1 _ H1 => q_ H1 2 rfl fun _ H2 => ln_ <| nx <| sq_ <| rl_ <| wl_ <| i_ H2 rfl (v := .agg (bs qb)) (dd_load HS1 0 0 rfl rfl (H2.ev 3 rfl) (slab_whole _) Tryd.underlying36 rfl (by rw [show (bs qb).size = 32 from ((size_bs _).trans hqb)]; kernel_rfl)) fun _ H3 => ?_
  clear HS HA0 H1 H2
  refine wl_ <| d_ H3 rfl (R := fun v w9 => ∃ A5 N5 C5 Bb5, v = .slice A5 N5 C5 ∧ ((volL (decLT qb)).length = N5 ∧ N5 ≤ 3) ∧ (W1.heap.size ≤ Bb5 ∧ Bb5 ≤ w9.heap.size) ∧ (OV Bb5 w9 (.slice A5 N5 C5) (volL (decLT qb))) ∧ Below W1.heap.size W1 w9) (dc_ Tryd.func32 rfl (args1 (H3.ev 15 rfl)) (volumes_any qb W1 hqb) (fun _ w9 ⟨v9, B9, he, h4, h5, ho, hb⟩ => by obtain ⟨A9, n9, c9, rfl, h1, _⟩ := OV.form2 ho; exact ⟨_, he, A9, n9, c9, B9, rfl, ⟨h1, by rw [← h1, len_volL]; exact decLT_len _⟩, ⟨h4, h5⟩, ho, hb⟩)) ?_
  rintro _ W4 ⟨A5, N5, C5, Bb5, rfl, hNd5, hBb5, hov5, hb4⟩ a4 H4
  have HS4 := HS1.same hb4
  clear H3
  have hln5 : (decLT qb).length = N5 := by rw [← len_volL]; exact hNd5.1
  have HBs6 : Below w.heap.size w W4 := HS4.below
  have HR6_0 := fun (W9 : World) (hb9 : Below W4.heap.size W4 W9) => (HS4.row 0 rfl).call hb9
  have HSb6 := St.nil W4 noF
  clear HS4
  have HVd5 := fun (W9 : World) (hb9 : Below W4.heap.size W4 W9) => ((hov5.vols (Nat.le_trans (Nat.le_of_eq hNd5.1) (Nat.le_trans hNd5.2 (by decide)))).below hb9 (Nat.le_refl _))
  clear HS1 hb4
  refine wl_ <| p_ H4 rfl rfl fun _ H7 => ln_ <| nx <| sq_ <| sq_ <| rl_ <| q_ H7 3 rfl fun _ H8 => wl_ <| c_ H8 rfl HSb6 (dcs Tryd.func33 rfl (args3 (H8.ev 17 rfl) (H8.ev 18 rfl) (H8.ev 19 rfl)) (maymake_any _ _ _ (decLT qb) q n W4 (HVd5 _ HSb6.below) (Nat.le_trans hNd5.2 (by decide)) hq) (.int .i64 (mayE (decLT qb) q n))) fun W9 HS9 _ H9 => wl_ <| p_ H9 rfl rfl fun _ H10 => ln_ <| nx <| sq_ <| rl_ <| wl_ <| p_ H10 rfl rfl fun _ H11 => wl_ <| i_ H11 rfl (dd_cmp rfl (H11.ev 21 rfl) rfl (ne_t hM)) fun _ H12 => ln_ <| nx <| ct_ H12 rfl <| sq_ <| rl_ <| q_ H12 3 rfl fun _ H13 => ln_ <| nx <| wp_ret <| tr <| ret_run H13.env0 (res_tt Tryd.results25 (H13.get 6 rfl) (H13.get 7 rfl)) <| ?_
  clear H4 H7 H8 HSb6 H9 H10 H11 H12
  exact ⟨_, by rw [make_E2 hM], by rw [make_P0 (make_ne2 hM)]; exact World.ownsRow_nil _ _ _ _, (HBs6.trans (HS9.below.mono HBs6.size))⟩
end Go.Proofs.YtnmaplgodimohaaDoor

/- slices.Delete of one volume: what it needs. No function of the program is named here. -/
set_option maxRecDepth 4000
namespace Go.Proofs.YtnmaplgodimohaaDoor
open Go Go.RowKit
section
variable {P : Program} {o : Oper} {a : Act} {w w0 : World} {R : Value → World → Prop} {F : Nat → Prop} {S : List Blk}
theorem dd_sl3 {t : TypeId} {x lo hi mx : Operand} {g i n c sz j : Nat} {k k' k3 : IntKind} {l u m : Nat} (ho : o.op = .slice t x (some lo) (some hi) (some mx)) (hx : a.eval x = .slice (some ⟨g, i, none⟩) n c) (hl : a.eval lo = .int k (l : Int)) (hh : a.eval hi = .int k' (u : Int)) (hm : a.eval mx = .int k3 (m : Int)) (ht : slOf P t = some sz) (h1 : l ≤ u) (h2 : u ≤ m) (h4 : m ≤ c) (h3 : l < m) (hj : i + l * sz = j) {n' c' : Nat} (hn : u - l = n') (hc : m - l = c')
    : (execOp a.eval o).run P w = .ok (.value (.slice (some ⟨g, j, none⟩) n' c')) w := by
  subst hj hn hc
  unfold slOf at ht
  cases hu : P.underlying t with
  | none => rw [hu] at ht; cases ht
  | some d =>
    rw [hu] at ht
    cases d with
    | slice e =>
      simp only at ht
      cases hq : P.info? e with
      | none => rw [hq] at ht; cases ht
      | some inf =>
        rw [hq] at ht
        simp only [Option.map_some, Option.some.injEq] at ht
        subst ht
        have e3 : ¬ m = l := by omega
        simp [execOp, ho, hx, hl, hh, hm, Instr.sliceAt, run_underlying hu, Instr.slice, Instr.sliceBounds, Instr.sliceBound, asIntOf, sizeOf, typeInfo, hq, h1, h2, h4, e3, Addr.add_mid]
    | _ => simp only at ht; cases ht
theorem dd_slE {t : TypeId} {x lo : Operand} {g i n c sz : Nat} {k : IntKind} {l : Nat} (ho : o.op = .slice t x (some lo) none none) (hx : a.eval x = .slice (some ⟨g, i, none⟩) n c) (hl : a.eval lo = .int k (l : Int)) (ht : slOf P t = some sz) (h1 : l = n) (h3 : l = c)
    : (execOp a.eval o).run P w = .ok (.value (.slice (some ⟨g, i, none⟩) 0 0)) w := by
  subst h1
  unfold slOf at ht
  cases hu : P.underlying t with
  | none => rw [hu] at ht; cases ht
  | some d =>
    rw [hu] at ht
    cases d with
    | slice e =>
      simp only at ht
      cases hq : P.info? e with
      | none => rw [hq] at ht; cases ht
      | some inf =>
        rw [hq] at ht
        simp only [Option.map_some, Option.some.injEq] at ht
        subst ht h3
        simp [execOp, ho, hx, hl, Instr.sliceAt, run_underlying hu, Instr.slice, Instr.sliceBounds, Instr.sliceBound, asIntOf, sizeOf, typeInfo, hq]
    | _ => simp only at ht; cases ht
/- append where there is room -/
theorem dd_appS (HS : St w0 F S w) (k : Nat) {g c n sz bytes : Nat} {cb : Array Value} {e t : TypeId} {L : List Value} {z : Value} (hk : S[k]? = some ⟨g, e, cb⟩) (O : OwnC cb c n sz L) {s x : Operand} (ho : o.op = .call { callee := .builtin .append, args := #[s, x], argTypes := #[t, t] })
    (hs : a.eval s = .slice (some ⟨g, 0, none⟩) n c) (ht : P.underlying t = some (.slice e)) (hi : (P.info? e).map (fun i => (i.zero, i.size, i.bytes)) = some (some z, sz, bytes))
    {ad : Addr} {m c2 : Nat} (news : List Value) (hx : a.eval x = .slice (some ad) m c2) (hl : news.length = m * sz) (hnews : ∀ j u, news[j]? = some u → w.cell? (ad.add j) = some u) (h1 : ∀ u ∈ news, u.oneCell' = true) (hr : n + m ≤ c)
    (h : ∀ cb' w', OwnC cb' c (n + m) sz (L ++ news) → St w0 F (S.set k ⟨g, e, cb'⟩) w' → R (.slice (some ⟨g, 0, none⟩) (n + m) c) w') : Does P o a w R := fun _ _ hK => by
  obtain ⟨i, hi1, _, hz2, _⟩ := info_parts hi
  have hrow := HS.row k hk
  obtain ⟨w', hrun, h2, h3⟩ := run_append_own_spare (P := P) w 0 t o.type e i sz ht hi1 hz2 g n c L (ownc_to hrow O (Nat.zero_le g)) ad m c2 news hl hnews h1 hr
  obtain ⟨g', c', cb', ev, _, hrow', O'⟩ := ownc_of h2 (fun ev => by cases ev)
  injection ev with ev _ ev2
  injection ev with ev
  injection ev with ev
  subst ev ev2
  unfold Oper.wp execOp
  simp only [ho, resolve, invoke, builtin, Sem.run_bind, Sem.run_pure, Result.andThen_ok, List.map_toArray, List.map_cons, List.map_nil, hs, hx, hrun]
  exact hK _ _ (h cb' w' O' (HS.upd k hk hrow' h3))
end
theorem zeroV : (Tryd.prog.info? 81).bind (·.zero) = some (.agg #[.string ⟨#[]⟩, .slice none 0 0]) := by kernel_rfl
/- one volume cleared -/
theorem dd_clr {o : Oper} {a : Act} {w w0 : World} {R : Value → World → Prop} {F : Nat → Prop} {S : List Blk} (HS : St w0 F S w) (k : Nat) {g off c2 : Nat} {cb : Array Value} {x : Operand} (hk : S[k]? = some ⟨g, 81, cb⟩) (ho : o.op = .call { callee := .builtin .clear, args := #[x], argTypes := #[75] }) (hx : a.eval x = .slice (some ⟨g, off, none⟩) 1 c2) (hfit : off + 2 ≤ cb.size)
    (h : ∀ w', St w0 F (S.set k ⟨g, 81, (cb.toList.take off ++ [Value.string ⟨#[]⟩, .slice none 0 0] ++ cb.toList.drop (off + 2)).toArray⟩) w' → R (.tuple #[]) w') : Does Tryd.prog o a w R := fun _ _ hK => by
  have hrow : Row w g 81 cb := HS.row k hk
  have hst := run_storeCells_at (P := Tryd.prog) g off 81 [Value.string ⟨#[]⟩, .slice none 0 0] 0 cb w hrow (by simpa using hfit) (by decide)
  have hzv : (zeroValue 81).run Tryd.prog w = .ok (.agg #[.string ⟨#[]⟩, .slice none 0 0]) w := by
    obtain ⟨i, hi, hz⟩ := Option.bind_eq_some_iff.1 zeroV
    simp [zeroValue, typeInfo, hi, hz]
  have hzc : (Builtin.zeroCells (Value.agg #[.string ⟨#[]⟩, .slice none 0 0]).cells 1).toList = [Value.string ⟨#[]⟩, .slice none 0 0] := by kernel_rfl
  have hrun : (Builtin.clear_ #[75] o.type #[.slice (some ⟨g, off, none⟩) 1 c2]).run Tryd.prog w = .ok (.tuple #[]) (w.setRow g (cb.toList.take off ++ [Value.string ⟨#[]⟩, .slice none 0 0] ++ cb.toList.drop (off + 2)).toArray) := by
    have hst2 := hst
    simp only [Nat.add_zero, List.length_cons, List.length_nil, Nat.reduceAdd] at hst2
    simp [Builtin.clear_, run_underlying Tryd.underlying75, hzv, hzc, hst2]
  unfold Oper.wp execOp
  simp only [ho, resolve, invoke, builtin, Sem.run_bind, Sem.run_pure, Result.andThen_ok, List.map_toArray, List.map_cons, List.map_nil, hx, hrun]
  exact hK _ _ (h _ (HS.upd k hk (hrow.setRow _) (grown_setRow w g _)))
end Go.Proofs.YtnmaplgodimohaaDoor

/- slices.Delete of one volume. -/
set_option maxRecDepth 4000
namespace Go.Proofs.YtnmaplgodimohaaDoor
open Go Go.RowKit
theorem own_takeV {cb : Array Value} {c n i : Nat} {L : List Value} (O : OwnC cb c n 2 L) (h : i ≤ n) : OwnC cb c i 2 (L.take (i * 2)) :=
  ⟨Nat.le_trans h O.le, O.cap, O.size, by rw [List.length_take, O.len]; omega, by rw [← O.take, List.take_take, Nat.min_eq_left (by omega)]⟩
theorem del_cells {w : World} {g c n : Nat} {t : TypeId} {cb : Array Value} {L : List Value} (h : Row w g t cb) (O : OwnC cb c n 2 L) (k : Nat) : ∀ (j : Nat) (u : Value), (L.drop (k * 2))[j]? = some u → w.cell? ((⟨g, 0 + k * 2, none⟩ : Addr).add j) = some u := fun j u hu => by
  rw [List.getElem?_drop] at hu
  have hj : k * 2 + j < L.length := (List.getElem?_eq_some_iff.1 hu).1
  rw [Addr.add_mid, h.cell, Nat.zero_add, ← Array.getElem?_toList]
  rw [← O.take, List.getElem?_take_of_lt (by rw [← O.len]; exact hj)] at hu
  exact hu
theorem own_clr {cb : Array Value} {c n : Nat} {L : List Value} (O : OwnC cb c n 2 L) (h : n + 1 ≤ c) : OwnC (cb.toList.take (0 + n * 2) ++ [Value.string ⟨#[]⟩, .slice none 0 0] ++ cb.toList.drop (0 + n * 2 + 2)).toArray c n 2 L := by
  have hs := O.size
  have ht : (cb.toList.take (0 + n * 2)).length = n * 2 := by rw [List.length_take, Array.length_toList]; omega
  refine ⟨O.le, O.cap, ?_, O.len, ?_⟩
  · rw [List.size_toArray, List.length_append, List.length_append, ht, List.length_drop, Array.length_toList]
    show n * 2 + 2 + (cb.size - (0 + n * 2 + 2)) = c * 2
    omega
  · rw [List.append_assoc, List.take_append_of_le_length (by rw [ht]; exact Nat.le_refl _), List.take_of_length_le (by rw [ht]; exact Nat.le_refl _), Nat.zero_add, O.take]
theorem del_own {cb : Array Value} {c n m : Nat} {L M : List Value} (O : OwnC cb c n 2 L) (h : n = m) (e : L = M) : OwnC cb c m 2 M := by subst h e; exact O
set_option maxHeartbeats 800000 in
theorem delete_st (g M c i : Nat) (cb : Array Value) (L : List Value) (F : Nat → Prop) (w : World) (HS : St w F [⟨g, 81, cb⟩] w) (O : OwnC cb c (M + 1) 2 L) (h1 : ∀ u ∈ L, u.oneCell' = true) (hi : i < M + 1) :
    Calls Tryd.prog 37 #[.slice (some ⟨g, 0, none⟩) (M + 1) c, .int .i64 i, .int .i64 (i + 1)] w fun e w' => ∃ cb', e = .returned (.slice (some ⟨g, 0, none⟩) M c) ∧ OwnC cb' c M 2 (L.take (i * 2) ++ L.drop ((i + 1) * 2)) ∧ St w F [⟨g, 81, cb'⟩] w' := by
  have hNc := O.le
  have hcm := O.cap
  refine enter_en Tryd.func37 rfl Tryd.ntmps37 (Nat.le_of_ble_eq_true rfl) fun a0 (HA0 : En 33 [(0, .slice (some ⟨g, 0, none⟩) (M + 1) c), (1, .int .i64 i), (2, .int .i64 (i + 1))] a0) => ?_
  refine sq_ <| rl_ <| wl_ <| p_ HA0 rfl rfl fun _ H1 => ln_ <| nx <| sq_ <| rl_ <| q_ H1 4 rfl fun _ H2 => wl_ <| i_ H2 rfl (v := .int .i64 (M + 1)) (dd_len rfl (H2.ev 11 rfl) Tryd.underlying75) fun _ H3 => wl_ <| i_ H3 rfl (v := .slice (some ⟨g, 0 + i * 2, none⟩) (i + 1 - i) (M + 1 - i)) (dd_sl3 (l := i) (u := i + 1) (m := M + 1) (sz := 2) rfl (H3.ev 8 rfl) (H3.ev 9 rfl) (H3.ev 10 rfl) (H3.ev 12 rfl) (by kernel_rfl) (by omega) (by omega) (by omega) (by omega) rfl rfl rfl) fun _ H4 => ln_ <| nx <| sq_ <| sq_ <| rl_ <| q_ H4 2 rfl fun _ H5 => wl_ <| i_ H5 rfl (dd_cmp rfl (H5.ev 14 rfl) (H5.ev 15 rfl) (eq_f (show ¬ (i : Int) = i + 1 by omega))) fun _ H6 => ln_ <| nx <| cf_ H6 rfl <| wp_skip <| nx <| sq_ <| rl_ <| wl_ <| p_ H6 rfl rfl fun _ H7 => wl_ <| i_ H7 rfl (v := .int .i64 (M + 1)) (dd_len rfl (H7.ev 18 rfl) Tryd.underlying75) fun _ H8 => ?_
  clear HA0 H1 H2 H3 H4 H5 H6
  refine wl_ <| p_ H8 rfl rfl fun _ H9 => ln_ <| nx <| sq_ <| ?_
  clear H7 H8
  by_cases hc16 : (i + 1 : Int) < c
  ·
   refine wi_ HS [] rfl [0] rfl fun HSh17 hx17 => hp_ H9 0 hx17 rfl rfl rfl fun _ H18 => hp_ H18 1 hx17 rfl rfl rfl fun _ H19 => ht_ H19 2 hx17 rfl rfl (v := .slice (some ⟨g, 0, none⟩) i c) (fun _ _ _ => dd_slh (sz := 2) rfl (H19.ev 20 rfl) (H19.ev 21 rfl) (by kernel_rfl) (by omega) (by omega) rfl) fun _ H20 => hp_ H20 3 hx17 rfl rfl rfl fun _ H21 => hp_ H21 4 hx17 rfl rfl rfl fun _ H22 => ht_ H22 5 hx17 rfl rfl (v := .slice (some ⟨g, 0 + (i + 1) * 2, none⟩) (M + 1 - (i + 1)) (c - (i + 1))) (fun _ _ _ => dd_sll (l := i + 1) (sz := 2) rfl (H22.ev 23 rfl) (H22.ev 24 rfl) (by kernel_rfl) (by omega) (by omega) rfl rfl rfl) fun _ H23 => ?_
   clear HS H9 H18 H19 H20 H21 H22
   refine h1_ 6 rfl <| d_ H23 rfl (R := fun v9 w9 => ∃ cb2 : Array Value, v9 = .slice (some ⟨g, 0, none⟩) M c ∧ (OwnC cb2 c (M) 2 (L.take (i * 2) ++ L.drop ((i + 1) * 2))) ∧ St w F [⟨g, 81, cb2⟩] w9) (dd_appS HSh17 0 rfl (own_takeV O (by omega)) rfl (H23.ev 22 rfl) Tryd.underlying75 (z := .agg #[.string ⟨#[]⟩, .slice none 0 0]) (bytes := 40) (by kernel_rfl) (L.drop ((i + 1) * 2)) (H23.ev 25 rfl) (by rw [List.length_drop, O.len]; omega) (del_cells (HSh17.row 0 rfl) O (i + 1)) (fun u hu => h1 u (List.mem_of_mem_drop hu)) (by omega) (fun cb9 w9 h8 h9 => ⟨cb9, by rw [show i + (M + 1 - (i + 1)) = M by omega], (show i + (M + 1 - (i + 1)) = M by omega) ▸ h8, h9⟩)) ?_
   rintro _ W24 ⟨cb2, rfl, O2, HS24⟩ a24 H24
   clear H23 HSh17
   refine sx_ (sxi HS24 [0] rfl) fun hx25 => hp_ H24 7 hx25 rfl rfl rfl fun _ H26 => ?_
   clear hx17 H24
   refine wpAnyH_done (by kernel_rfl) ?_ _
   clear hx25
   refine nx <| sq_ <| rl_ <| q_ H26 2 rfl fun _ H27 => wl_ <| i_ H27 rfl (v := .int .i64 M) (dd_len rfl (H27.ev 28 rfl) Tryd.underlying75) fun _ H28 => wl_ <| p_ H28 rfl rfl fun _ H29 => wl_ <| i_ H29 rfl (v := .slice (some ⟨g, 0 + (M) * 2, none⟩) 1 (c - (M))) (dd_sllh (l := M) (u := M + 1) (sz := 2) rfl (H29.ev 27 rfl) (H29.ev 29 rfl) (H29.ev 30 rfl) (by kernel_rfl) (by omega) (by omega) (by omega) rfl (by omega) rfl) fun _ H30 => wl_ <| tq rfl (S := [⟨g, 81, (cb2.toList.take (0 + (M) * 2) ++ [Value.string ⟨#[]⟩, .slice none 0 0] ++ cb2.toList.drop (0 + (M) * 2 + 2)).toArray⟩]) (v := .tuple #[]) (fun _ h => dd_clr HS24 0 rfl rfl (H30.ev 31 rfl) (by rw [O2.size]; omega) h) fun _ HS31 => ln_ <| ?_
   clear H26 H27 H28 H29 HS24
   have H32 := H30.sel [0] rfl
   refine nx <| sq_ <| rl_ <| q_ H32 2 rfl fun _ H33 => ln_ <| nx <| wp_ret <| ret_run H33.env0 (res_t Tryd.results37 (H33.get 6 rfl)) <| ?_
   clear H30 H32
   exact ⟨_, rfl, del_own (own_clr O2 (by omega)) rfl (by first | rfl | rw [List.drop_of_length_le (by rw [O.len]; omega)]), HS31⟩
  refine wi_ HS [] rfl [0] rfl fun HSh34 hx34 => hp_ H9 0 hx34 rfl rfl rfl fun _ H35 => hp_ H35 1 hx34 rfl rfl rfl fun _ H36 => ht_ H36 2 hx34 rfl rfl (v := .slice (some ⟨g, 0, none⟩) i c) (fun _ _ _ => dd_slh (sz := 2) rfl (H36.ev 20 rfl) (H36.ev 21 rfl) (by kernel_rfl) (by omega) (by omega) rfl) fun _ H37 => hp_ H37 3 hx34 rfl rfl rfl fun _ H38 => hp_ H38 4 hx34 rfl rfl rfl fun _ H39 => ht_ H39 5 hx34 rfl rfl (v := .slice (some ⟨g, 0, none⟩) 0 0) (fun _ _ _ => dd_slE (l := i + 1) (sz := 2) rfl (H39.ev 23 rfl) (H39.ev 24 rfl) (by kernel_rfl) (by omega) (by omega)) fun _ H40 => ?_
  clear HS H9 H35 H36 H37 H38 H39
  refine h1_ 6 rfl <| d_ H40 rfl (R := fun v9 w9 => ∃ cb2 : Array Value, v9 = .slice (some ⟨g, 0, none⟩) M c ∧ (OwnC cb2 c (M) 2 (L.take (i * 2) ++ [])) ∧ St w F [⟨g, 81, cb2⟩] w9) (dd_appS HSh34 0 rfl (own_takeV O (by omega)) rfl (H40.ev 22 rfl) Tryd.underlying75 (z := .agg #[.string ⟨#[]⟩, .slice none 0 0]) (bytes := 40) (by kernel_rfl) [] (H40.ev 25 rfl) (by simp) (fun j u h9 => by simp at h9) (fun u h9 => by cases h9) (by omega) (fun cb9 w9 h8 h9 => ⟨cb9, by rw [show i + 0 = M by omega], (show i + 0 = M by omega) ▸ h8, h9⟩)) ?_
  rintro _ W41 ⟨cb2, rfl, O2, HS41⟩ a41 H41
  clear H40 HSh34
  refine sx_ (sxi HS41 [0] rfl) fun hx42 => hp_ H41 7 hx42 rfl rfl rfl fun _ H43 => ?_
  clear hx34 H41
  refine wpAnyH_done (by kernel_rfl) ?_ _
  clear hx42
  refine nx <| sq_ <| rl_ <| q_ H43 2 rfl fun _ H44 => wl_ <| i_ H44 rfl (v := .int .i64 M) (dd_len rfl (H44.ev 28 rfl) Tryd.underlying75) fun _ H45 => wl_ <| p_ H45 rfl rfl fun _ H46 => wl_ <| i_ H46 rfl (v := .slice (some ⟨g, 0 + (M) * 2, none⟩) 1 (c - (M))) (dd_sllh (l := M) (u := M + 1) (sz := 2) rfl (H46.ev 27 rfl) (H46.ev 29 rfl) (H46.ev 30 rfl) (by kernel_rfl) (by omega) (by omega) (by omega) rfl (by omega) rfl) fun _ H47 => wl_ <| tq rfl (S := [⟨g, 81, (cb2.toList.take (0 + (M) * 2) ++ [Value.string ⟨#[]⟩, .slice none 0 0] ++ cb2.toList.drop (0 + (M) * 2 + 2)).toArray⟩]) (v := .tuple #[]) (fun _ h => dd_clr HS41 0 rfl rfl (H47.ev 31 rfl) (by rw [O2.size]; omega) h) fun _ HS48 => ln_ <| ?_
  clear H43 H44 H45 H46 HS41
  have H49 := H47.sel [0] rfl
  refine nx <| sq_ <| rl_ <| q_ H49 2 rfl fun _ H50 => ln_ <| nx <| wp_ret <| ret_run H50.env0 (res_t Tryd.results37 (H50.get 6 rfl)) <| ?_
  clear H47 H49
  exact ⟨_, rfl, del_own (own_clr O2 (by omega)) rfl (by first | rfl | rw [List.drop_of_length_le (by rw [O.len]; omega)]), HS48⟩
end Go.Proofs.YtnmaplgodimohaaDoor

/- The program's Gone. -/
set_option maxRecDepth 4000
namespace Go.Proofs.YtnmaplgodimohaaDoor
open Go Go.RowKit
theorem ov_open {B : Nat} {W : World} {v : Value} {l : List Vl} (h : OV B W v l) (hl : 0 < l.length) : ∃ g c cb vs, v = .slice (some ⟨g, 0, none⟩) l.length c ∧ B ≤ g ∧ Row W g 81 cb ∧ OwnC cb c l.length 2 vs.flatten ∧ CellsV B W vs l := by
  obtain ⟨vs, h1, h2⟩ := h
  obtain ⟨g, c, cb, e, hb, hr, O⟩ := ownc_pos h1 hl
  exact ⟨g, c, cb, vs, e, hb, hr, O, h2⟩
theorem st_row {W : World} {g : Nat} {t : TypeId} {cs : Array Value} (h : Row W g t cs) : St W (inS [⟨g, t, cs⟩]) [⟨g, t, cs⟩] W :=
  ⟨Chg.refl _ _, fun k r hk => by
    match k, hk with
    | 0, hk => cases hk; exact h, fun i j r s hij hi hj => by
    match i, hi, j, hj with
    | 0, _, 0, _ => exact absurd rfl hij, fun k r hk => .inl ⟨r, List.mem_of_getElem? hk, rfl⟩⟩
theorem st_del {w W W2 : World} {g : Nat} {t : TypeId} {cs : Array Value} {S : List Blk} (h : St w noF [] W) (k : St W (inS [⟨g, t, cs⟩]) S W2) (hg : w.heap.size ≤ g) : St w noF [] W2 := by
  refine (St.nil w noF).same ⟨k.chg.os.trans h.chg.os, k.chg.tape.trans h.chg.tape, k.chg.output.trans h.chg.output, Nat.le_trans h.chg.size k.chg.size, fun j hj => ?_⟩
  refine (k.chg.block j (Nat.lt_of_lt_of_le hj h.chg.size) fun ⟨r, h1, h2⟩ => ?_).trans (h.chg.block j hj fun e => e)
  rw [List.mem_singleton] at h1
  subst h1
  have h2 : g = j := h2
  omega
theorem chg_noF {w w' : World} (h : Chg noF w w') : Below w.heap.size w w' := ⟨h.os, h.tape, h.output, h.size, fun k hk => h.block k hk fun e => e⟩
theorem flat_erase : ∀ (vs : List (List Value)) (i : Nat), (∀ c ∈ vs, c.length = 2) → i < vs.length → (vs.eraseIdx i).flatten = vs.flatten.take (i * 2) ++ vs.flatten.drop ((i + 1) * 2)
  | [], i, _, h => absurd h (Nat.not_lt_zero _)
  | v :: vs, 0, h, _ => by
    have hv := h v (List.mem_cons_self ..)
    simp only [List.eraseIdx_zero, List.tail_cons, List.flatten_cons, Nat.zero_mul, List.take_zero, List.nil_append]
    rw [List.drop_append_of_le_length (by omega), List.drop_of_length_le (by omega), List.nil_append]
  | v :: vs, i + 1, h, hi => by
    have hv := h v (List.mem_cons_self ..)
    have ih := flat_erase vs i (fun c hc => h c (List.mem_cons_of_mem _ hc)) (Nat.lt_of_succ_lt_succ hi)
    have t1 : (v ++ vs.flatten).take ((i + 1) * 2) = v ++ vs.flatten.take (i * 2) := by rw [show (i + 1) * 2 = v.length + i * 2 by omega, List.take_length_add_append]
    have t2 : (v ++ vs.flatten).drop ((i + 1 + 1) * 2) = vs.flatten.drop ((i + 1) * 2) := by rw [show (i + 1 + 1) * 2 = v.length + (i + 1) * 2 by omega, List.drop_length_add_append]
    rw [List.eraseIdx_cons_succ, List.flatten_cons, ih, List.flatten_cons, t1, t2, List.append_assoc]
theorem ov_del {B : Nat} {W W2 : World} {l : List Vl} {vs : List (List Value)} {g c M i : Nat} {cb cb2 : Array Value} (hcv : CellsV B W vs l) (hr : Row W g 81 cb) (hB : B ≤ g) (hBW : B ≤ W.heap.size) (k : St W (inS [⟨g, 81, cb⟩]) [⟨g, 81, cb2⟩] W2)
    (O : OwnC cb2 c M 2 (vs.flatten.take (i * 2) ++ vs.flatten.drop ((i + 1) * 2))) (hi : i < l.length) : OV B W2 (.slice (some ⟨g, 0, none⟩) M c) (l.eraseIdx i) := by
  have hin : ∀ j, inS [⟨g, 81, cb⟩] j → j = g := fun j ⟨r, h2, h3⟩ => by
    rw [List.mem_singleton] at h2
    subst h2; exact h3.symm
  have hbl : Below B W W2 := ⟨k.chg.os, k.chg.tape, k.chg.output, k.chg.size, fun j hj => k.chg.block j (Nat.lt_of_lt_of_le hj hBW) fun hF => by have := hin j hF; omega⟩
  have hf := flat_erase vs i hcv.2.1 (by rw [hcv.1]; exact hi)
  have hl : (vs.eraseIdx i).length = (l.eraseIdx i).length := by rw [List.length_eraseIdx, List.length_eraseIdx, hcv.1]
  have h2 : ∀ d ∈ vs.eraseIdx i, d.length = 2 := fun d hd => hcv.2.1 d (List.mem_of_mem_eraseIdx hd)
  have hM : (l.eraseIdx i).length = M := by
    have h3 := O.len
    rw [← hf, flat_length (sz := 2) _ h2, hl] at h3; omega
  refine ⟨vs.eraseIdx i, by rw [hM, hf]; exact ownc_to (k.row 0 rfl) O hB, hl, h2, fun j x hx => ?_⟩
  rw [List.getElem?_eraseIdx] at hx
  have key : ∀ j', l[j']? = some x → ∃ A cc, vs[j']? = some [Value.string x.1, Value.slice A x.2.length cc] ∧ InV B W2 A cc x.2 ∧ x.1.size ≤ maxLen := fun j' hx' => by
    obtain ⟨A, cc, h3, h4, h5⟩ := hcv.2.2 j' x hx'
    refine ⟨A, cc, h3, ?_, h5⟩
    rcases h4 with ⟨w1, k1, k2, k3⟩ | ⟨k1, k2⟩
    · exact .inl ⟨w1, k1, k2.trans hbl, k3⟩
    · refine .inr ⟨own_chg k1 k.chg fun b hb hF => ?_, k2⟩
      have e := hin b hF
      subst e
      obtain ⟨_, h6 | ⟨g2, cap, cur, e2, _, h7, _⟩⟩ := k1
      · rw [h6.1] at hb; cases hb
      · rw [e2] at hb
        injection hb with hb
        have hb : g2 = b := hb
        subst hb
        rw [hr] at h7
        injection h7 with h7
        injection h7 with _ h7 _
        exact absurd h7 (by decide)
  rw [List.getElem?_eraseIdx]
  by_cases hj : j < i
  · rw [if_pos hj] at hx ⊢; exact key j hx
  · rw [if_neg hj] at hx ⊢; exact key (j + 1) hx
theorem vol_erase (l : List Tv) (i : Nat) : (volL l).eraseIdx i = volL (l.eraseIdx i) := by
  refine List.ext_getElem? fun j => ?_
  unfold volL
  simp only [List.getElem?_map, List.getElem?_eraseIdx]
  split <;> rfl
theorem goneL_is {l : List Tv} {q : List (BitVec 8)} {i : Nat} (h : findI q l = (i : Int)) : goneL l q = l.eraseIdx i := by unfold goneL; rw [h]; rfl
theorem goneL_small (qb q : List (BitVec 8)) : ∀ x ∈ goneL (decLT qb) q, x.2.length ≤ 1000000 := fun x hx => decLT_small qb x (List.mem_of_mem_eraseIdx hx)
section
variable {l : List Tv} {q : List (BitVec 8)}
theorem gone_E1 (h : findI q l < 0) : goneE l q = 16 := if_pos h
theorem gone_E0 (h : ¬ findI q l < 0) : goneE l q = 0 := if_neg h
theorem gone_P1 (h : findI q l < 0) : goneP l q = [] := if_pos h
theorem gone_P0 (h : ¬ findI q l < 0) : goneP l q = [(0, encT (goneL l q))] := if_neg h
end
set_option maxHeartbeats 1600000 in
theorem gone_any (qb q : List (BitVec 8)) (w : World) (hqb : qb.length = 32) : Calls Tryd.prog 26 #[.agg (bs qb), .string (strB q)] w fun e w' => ∃ v, e = .returned (.tuple #[v, .int .i64 (goneE (decLT qb) q)]) ∧ w'.ownsRow w.heap.size 70 33 v (goneP (decLT qb) q).length ((goneP (decLT qb) q).map pcell).flatten ∧ Below w.heap.size w w' := by
  have HS := St.nil w noF
  refine enter_en Tryd.func26 rfl Tryd.ntmps26 (Nat.le_of_ble_eq_true rfl) fun a0 (HA0 : En 21 [(0, .agg (bs qb)), (1, .string (strB q))] a0) => ?_
  refine sq_ <| rl_ <| wl_ <| n_ HA0 rfl (fun _ h => dd_box HS rfl (HA0.ev 0 rfl) (cs := (bs qb)) rfl h) fun _ W1 HS1 _ H1 => q_ H1 2 rfl fun _ H2 => ln_ <| nx <| sq_ <| rl_ <| ?_
  clear HS HA0 H1
  have hS1 := HS1
  refine wl_ <| i_ H2 rfl (v := .agg (bs qb)) (dd_load HS1 0 0 rfl rfl (H2.ev 2 rfl) (slab_whole _) Tryd.underlying36 rfl (by rw [show (bs qb).size = 32 from ((size_bs _).trans hqb)]; kernel_rfl)) fun _ H3 => ?_
  clear H2
  refine wl_ <| d_ H3 rfl (R := fun v w9 => ∃ A5 N5 C5 Bb5, v = .slice A5 N5 C5 ∧ ((volL (decLT qb)).length = N5 ∧ N5 ≤ 3) ∧ (W1.heap.size ≤ Bb5 ∧ Bb5 ≤ w9.heap.size) ∧ (OV Bb5 w9 (.slice A5 N5 C5) (volL (decLT qb))) ∧ Below W1.heap.size W1 w9) (dc_ Tryd.func32 rfl (args1 (H3.ev 8 rfl)) (volumes_any qb W1 hqb) (fun _ w9 ⟨v9, B9, he, h4, h5, ho, hb⟩ => by obtain ⟨A9, n9, c9, rfl, h1, _⟩ := OV.form2 ho; exact ⟨_, he, A9, n9, c9, B9, rfl, ⟨h1, by rw [← h1, len_volL]; exact decLT_len _⟩, ⟨h4, h5⟩, ho, hb⟩)) ?_
  rintro _ W4 ⟨A5, N5, C5, Bb5, rfl, hNd5, hBb5, hov5, hb4⟩ a4 H4
  have HS4 := HS1.same hb4
  clear H3
  have hln5 : (decLT qb).length = N5 := by rw [← len_volL]; exact hNd5.1
  have HBs6 : Below w.heap.size w W4 := HS4.below
  have HR6_0 := fun (W9 : World) (hb9 : Below W4.heap.size W4 W9) => (HS4.row 0 rfl).call hb9
  have HSb6 := St.nil W4 noF
  clear HS4
  have HVd5 := fun (W9 : World) (hb9 : Below W4.heap.size W4 W9) => ((hov5.vols (Nat.le_trans (Nat.le_of_eq hNd5.1) (Nat.le_trans hNd5.2 (by decide)))).below hb9 (Nat.le_refl _))
  clear HS1 hb4
  refine wl_ <| p_ H4 rfl rfl fun _ H7 => ln_ <| nx <| sq_ <| rl_ <| q_ H7 2 rfl fun _ H8 => ?_
  clear H4 H7
  have hfi10 := findI_is q (decLT qb)
  refine wl_ <| c_ H8 rfl HSb6 (dcs Tryd.func36 rfl (args2 (H8.ev 10 rfl) (H8.ev 11 rfl)) (find_any _ _ _ q (decLT qb) W4 (HVd5 _ HSb6.below) (Nat.le_trans hNd5.2 (by decide))) (.int .i64 (findI q (decLT qb)))) fun W9 HS9 _ H9 => wl_ <| p_ H9 rfl rfl fun _ H11 => ln_ <| nx <| sq_ <| sq_ <| rl_ <| wl_ <| p_ H11 rfl rfl fun _ H12 => ?_
  clear H8 HSb6 H9 H11
  by_cases hc14 : (findI q (decLT qb) : Int) < 0
  ·
   refine wl_ <| i_ H12 rfl (dd_cmp rfl (H12.ev 13 rfl) rfl (lt_t hc14)) fun _ H15 => ln_ <| nx <| ct_ H15 rfl <| sq_ <| rl_ <| q_ H15 2 rfl fun _ H16 => ln_ <| nx <| wp_ret <| tr <| ret_run H16.env0 (res_tt Tryd.results26 (H16.get 4 rfl) (H16.get 5 rfl)) <| ?_
   clear H12 H15
   exact ⟨_, by rw [gone_E1 hc14], by rw [gone_P1 hc14]; exact World.ownsRow_nil _ _ _ _, (HBs6.trans (HS9.below.mono HBs6.size))⟩
  refine wl_ <| i_ H12 rfl (dd_cmp rfl (H12.ev 13 rfl) rfl (lt_f hc14)) fun _ H17 => ln_ <| nx <| cf_ H17 rfl <| wp_skip <| nx <| sq_ <| rl_ <| q_ H17 3 rfl fun _ H18 => wl_ <| i_ H18 rfl (v := .int .i64 ((findI q (decLT qb)) + 1)) (dd_ari rfl (H18.ev 17 rfl) rfl rfl (i64_of (by first | omega | (have := bd_lo; omega)) (by omega))) fun _ H19 => ?_
  clear H12 H17 H18
  obtain ⟨i, hi⟩ : ∃ i : Nat, findI q (decLT qb) = (i : Int) := ⟨(findI q (decLT qb)).toNat, by omega⟩
  obtain ⟨M, hM⟩ : ∃ M, N5 = M + 1 := ⟨N5 - 1, by omega⟩
  obtain ⟨gd, cd, cbd, vsd, hvd, hBd, hrd, Od, hcd⟩ := ov_open (hov5.call HS9.below hBb5.2) (show 0 < (volL (decLT qb)).length by rw [len_volL]; omega)
  rw [show (volL (decLT qb)).length = M + 1 by rw [len_volL]; omega] at hvd Od
  have hBW := Nat.le_trans hBb5.2 HS9.below.size
  have hfi := (HS9).first HBs6
  refine wl_ <| d_ H19 rfl (R := fun v9 w9 => v9 = .slice (some ⟨gd, 0, none⟩) M cd ∧ (OV Bb5 w9 (.slice (some ⟨gd, 0, none⟩) M cd) ((volL (decLT qb)).eraseIdx i)) ∧ St w noF [] w9) (dc_ Tryd.func37 rfl (args3 (((H19.ev 15 rfl)).trans hvd) (((H19.ev 16 rfl)).trans (by rw [hi])) (((H19.ev 18 rfl)).trans (by rw [hi]))) (delete_st gd M cd i cbd vsd.flatten _ W9 (st_row hrd) Od (one_volV hcd) (by omega)) (fun _ w9 ⟨cb9, he, hO, hS⟩ => ⟨_, he, rfl, (ov_del hcd hrd hBd hBW hS hO (show i < (volL (decLT qb)).length by rw [len_volL]; omega) : OV Bb5 w9 (.slice (some ⟨gd, 0, none⟩) M cd) ((volL (decLT qb)).eraseIdx i)), st_del hfi hS (Nat.le_trans hS1.below.size (Nat.le_trans hBb5.1 hBd))⟩)) ?_
  rintro _ W20 ⟨rfl, hovd, HS20⟩ a20 H20
  clear H19 HS9
  have hvg : VolsAt W20 (.slice (some ⟨gd, 0, none⟩) M cd) (volL (goneL (decLT qb) q)) := by rw [goneL_is hi]; rw [vol_erase] at hovd; exact hovd.vols (by rw [len_volL, List.length_eraseIdx, if_pos (by omega)]; exact Nat.le_trans (Nat.le_trans (Nat.sub_le _ _) (decLT_len qb)) (by decide))
  have hng := HS20.below
  refine wl_ <| d_ H20 rfl (R := fun v9 w9 => ∃ gp : Nat, ∃ cp : Nat, ∃ cbp : Array Value, v9 = .slice (some ⟨gp, 0, none⟩) 1 cp ∧ (OwnC cbp cp 1 33 ((([(0, encT (goneL (decLT qb) q))] : List Pt).map pcell).flatten)) ∧ St w noF [⟨gp, 70, cbp⟩] w9) (dc_ Tryd.func35 rfl (args2 (H20.ev 19 rfl) rfl) (withtable_nil _ _ _ (goneL (decLT qb) q) noF W20 (fun W9 h9 => hvg.below (chg_noF h9) (Nat.le_refl _)) (by omega) (goneL_small _ _)) (fun _ w9 ⟨g9, c9, cb9, he, hO, hS⟩ => ⟨_, he, g9, c9, cb9, rfl, hO, hS.first hng⟩)) ?_
  rintro _ W21 ⟨gp, cp, cbp, rfl, Op, HS21⟩ a21 H21
  clear H20 HS20
  refine q_ H21 2 rfl fun _ H22 => ln_ <| ?_
  clear H21
  have H23 := H22.sel [4, 5] rfl
  refine nx <| wp_ret <| ret_run H23.env0 (res_tt Tryd.results26 (H23.get 4 rfl) (H23.get 5 rfl)) <| ?_
  clear H22
  exact ⟨_, by rw [gone_E0 hc14], own_puts (gone_P0 hc14) (by rw [gone_P0 hc14]; rfl) (ownc_to (HS21.row 0 rfl) Op (st_fresh2 HS21 0 rfl)), HS21.below⟩
end Go.Proofs.YtnmaplgodimohaaDoor

/- Volumes of one's own, cell by cell. -/
set_option maxRecDepth 4000
namespace Go.Proofs.YtnmaplgodimohaaDoor
open Go Go.RowKit
end Go.Proofs.YtnmaplgodimohaaDoor

/- The document's Gone. -/
set_option maxRecDepth 4000
namespace Go.Proofs.YtnmaplgodimohaaDoor
open Go Go.RowKit
end Go.Proofs.YtnmaplgodimohaaDoor

/- The document's Make. -/
set_option maxRecDepth 4000
namespace Go.Proofs.YtnmaplgodimohaaDoor
open Go Go.RowKit
end Go.Proofs.YtnmaplgodimohaaDoor
