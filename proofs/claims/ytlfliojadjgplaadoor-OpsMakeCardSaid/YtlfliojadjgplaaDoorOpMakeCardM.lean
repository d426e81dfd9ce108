/- OpsMake, as its tied card: for every slice of volumes, name and number the call returns true and changes nothing that it was handed. Conditions: those of the row (the tables of runes lie as the program's text lays them, which the card ties to the pruned copy). -/
import Derived.Test.YtlfliojadjgplaaDoorMAw2
import Derived.Test.YtlfliojadjgplaaDoorMGen0
import Derived.Test.YtlfliojadjgplaaDoorMNode0
/- The statement OpsMake: its walk. -/
set_option maxRecDepth 4000
namespace Go.Proofs.YtlfliojadjgplaaDoor
open Go Go.RowKit
theorem own_form0 {w : World} {b sz : Nat} {e : TypeId} {v : Value} {L : List Value} (h : w.ownsRow b e sz v ([] : List Pt).length L) : ∃ A c, v = .slice A 0 c := by
  obtain ⟨_, h | ⟨g, cap, cur, rfl, _⟩⟩ := h
  · exact ⟨none, 0, h.1⟩
  · exact ⟨_, _, rfl⟩
theorem puts_ownN {w : World} {b n : Nat} {v : Value} {P : List Pt} (hn : P.length = n) (h : w.ownsRow b 51 33 v n (P.map pcell).flatten) (hl : ∀ x ∈ P, x.2.length = 32 ∧ -9223372036854775808 ≤ x.1 ∧ x.1 < 9223372036854775808) : PutsAt w v P := by
  subst hn; exact puts_own h hl
theorem len_volL_eq {l : List Tv} {n : Nat} (h : l.length = n) : (volL l).length = n := by rw [len_volL]; exact h
theorem vols_pre {w : World} {b o n m c : Nat} {l m2 : List Vl} (h : VolsAt w (.slice (some ⟨b, o, none⟩) m c) (l ++ m2)) (hl : l.length = n) : VolsAt w (.slice (some ⟨b, o, none⟩) n c) l := by
  subst hl
  obtain ⟨A2, c2, e1, h2, _, h4, h5⟩ := h
  have e1 : Value.slice (some ⟨b, o, none⟩) m c = .slice A2 (l ++ m2).length c2 := by simpa using e1
  injection e1 with e1 _ e3
  subst e1 e3
  rw [List.length_append] at h2 h4
  refine ⟨_, c, rfl, by omega, fun h => (by cases h), by omega, fun hne => ?_⟩
  obtain ⟨b2, o2, h6, h7, h8⟩ := h5 (fun e => hne (List.append_eq_nil_iff.1 e).1)
  refine ⟨b2, o2, h6, h7, fun k x hx => h8 k x ?_⟩
  rw [List.getElem?_append_left (List.getElem?_eq_some_iff.1 hx).1]; exact hx
theorem vols_preM {w : World} {b o n m c : Nat} {l : List Tv} {q : List (BitVec 8)} {x : Int} (h : VolsAt w (.slice (some ⟨b, o, none⟩) m c) (volL (makeL l q x))) (hl : l.length = n) : VolsAt w (.slice (some ⟨b, o, none⟩) n c) (volL l) := by
  rw [← vol_snoc] at h; exact vols_pre h (len_volL_eq hl)
section
variable {l : List Tv} {q p : List (BitVec 8)} {N n : Nat} {L : List Int}
theorem make_at (hln : l.length = n) (h : (makeL l q (N : Int))[n]? = some (p, L)) : p = q ∧ L = takeT l N := by
  subst hln
  unfold makeL at h
  rw [List.getElem?_append_right (Nat.le_refl _), Nat.sub_self] at h
  injection h with h
  injection h with h1 h2
  exact ⟨h1.symm, h2.symm⟩
theorem make_last (hm : makeE l q (N : Int) = 0) (hT : (takeT l N).length = N) : (makeP l q (N : Int))[N]? = some (0, encT (makeL l q N)) := by
  rw [make_P hm, List.getElem?_append_right (by rw [List.length_map]; omega), List.length_map, hT, Nat.sub_self]; rfl
theorem make_nth {k : Nat} (hm : makeE l q (N : Int) = 0) (hT : (takeT l N).length = N) (hk : k < N) : (makeP l q (N : Int))[k]? = some ((takeT l N).getD k 0, zer 32) := by
  rw [make_P hm, List.getElem?_append_left (by rw [List.length_map]; omega), List.getElem?_map, List.getD_eq_getElem?_getD, List.getElem?_eq_getElem (by omega)]; rfl
end
set_option maxHeartbeats 1600000 in
theorem opmake_bad (A : Option Addr) (n c : Nat) (l : List Tv) (q : List (BitVec 8)) (w : World) (h0 : VolsAt w (.slice A n c) (volL l)) (_ : q.length ≤ maxLen) (x : Int) (hG : goodT l = false) : Calls Tryd.prog 4 #[.slice A n c, .string (strB q), .int .i64 x] w fun e w' => e = .returned (.bool true) ∧ Below w.heap.size w w' := by
  have HS := St.nil w noF
  have HVl : ∀ W, Below w.heap.size w W → VolsAt W (.slice A n c) (volL l) := fun W hb => h0.below hb (Nat.le_refl _)
  have hln : l.length = n := by rw [← len_volL]; exact vols_len h0
  refine enter_en Tryd.func4 rfl Tryd.ntmps4 (Nat.le_of_ble_eq_true rfl) fun a0 (HA0 : En 182 [(0, .slice A n c), (1, .string (strB q)), (2, .int .i64 x)] a0) => ?_
  refine sq_ <| rl_ <| wl_ <| p_ HA0 rfl rfl fun _ H1 => ln_ <| nx <| sq_ <| sq_ <| rl_ <| wl_ <| p_ H1 rfl rfl fun _ H2 => wl_ <| i_ H2 rfl (v := .int .i64 q.length) (dd_lens rfl (H2.ev 16 rfl) Tryd.underlying9 (by rw [strB_size])) fun _ H3 => ?_
  clear HA0 H1 H2
  by_cases hc5 : (100 : Int) < q.length
  ·
   refine wl_ <| i_ H3 rfl (dd_cmp rfl (H3.ev 17 rfl) rfl (gt_t hc5)) fun _ H6 => wl_ <| p_ H6 rfl rfl fun _ H7 => wl_ <| k_ H7 (wg_ H7 rfl rfl rfl rfl) rfl fun _ H8 => wl_ <| k_ H8 (wg_ H8 rfl rfl rfl rfl) rfl fun _ H9 => wl_ <| k_ H9 (wg_ H9 rfl rfl rfl rfl) rfl fun _ H10 => wl_ <| p_ H10 rfl rfl fun _ H11 => ln_ <| nx <| ct_ H11 rfl <| sq_ <| rl_ <| wl_ <| c_ H11 rfl HS (dcs Tryd.func7 rfl (args0 ) (opwakes_any w) (.bool true)) fun _ HS12 _ H12 => wl_ <| p_ H12 rfl rfl fun _ H13 => ?_
   clear H3 H6 H7 H8 H9 H10 H11 HS
   refine ln_ <| nx <| wp_ret <| tr <| ret_run H13.env0 (res_t Tryd.results4 (H13.get 6 rfl)) <| ?_
   clear H12
   exact ⟨rfl, HS12.below⟩
  refine wl_ <| i_ H3 rfl (dd_cmp rfl (H3.ev 17 rfl) rfl (gt_f hc5)) fun _ H14 => wl_ <| p_ H14 rfl rfl fun _ H15 => wl_ <| ig H15 (wg_ H15 rfl rfl rfl rfl) rfl (dd_mv rfl (H15.ev 0 rfl)) fun _ H16 => wl_ <| cg H16 (wg_ H16 rfl rfl rfl rfl) rfl HS (v := .bool false) (dc_ Tryd.func20 rfl (args1 (H16.ev 20 rfl)) (rgoodt_all _ _ _ l w (HVl _ HS.below)) (fun _ w9 h9 => ⟨_, h9.1, by rw [hG], h9.2⟩)) fun W17 HS17 _ H17 => wl_ <| ig H17 (wg_ H17 rfl rfl rfl rfl) rfl (v := .bool true) (dd_nt rfl (H17.ev 21 rfl) rfl) fun _ H18 => wl_ <| p_ H18 rfl rfl fun _ H19 => ln_ <| nx <| ct_ H19 rfl <| sq_ <| rl_ <| wl_ <| c_ H19 rfl HS17 (dcs Tryd.func7 rfl (args0 ) (opwakes_any W17) (.bool true)) fun _ HS20 _ H20 => wl_ <| p_ H20 rfl rfl fun _ H21 => ?_
  clear H3 H14 H15 H16 HS H17 H18 H19 HS17
  refine ln_ <| nx <| wp_ret <| tr <| ret_run H21.env0 (res_t Tryd.results4 (H21.get 6 rfl)) <| ?_
  clear H20
  exact ⟨rfl, HS20.below⟩
set_option maxHeartbeats 1600000 in
theorem opmake_no (A : Option Addr) (n c : Nat) (l : List Tv) (q : List (BitVec 8)) (w : World) (h0 : VolsAt w (.slice A n c) (volL l)) (hq : q.length ≤ maxLen) (x : Int) (hG : goodT l = true) (hm : ¬ makeE l q x = 0) : Calls Tryd.prog 4 #[.slice A n c, .string (strB q), .int .i64 x] w fun e w' => e = .returned (.bool true) ∧ Below w.heap.size w w' := by
  have HS := St.nil w noF
  have HVl : ∀ W, Below w.heap.size w W → VolsAt W (.slice A n c) (volL l) := fun W hb => h0.below hb (Nat.le_refl _)
  have hln : l.length = n := by rw [← len_volL]; exact vols_len h0
  obtain ⟨hn3, hm1⟩ := ap_small hG
  have hn3 : n ≤ 3 := by omega
  refine enter_en Tryd.func4 rfl Tryd.ntmps4 (Nat.le_of_ble_eq_true rfl) fun a0 (HA0 : En 182 [(0, .slice A n c), (1, .string (strB q)), (2, .int .i64 x)] a0) => ?_
  refine sq_ <| rl_ <| wl_ <| p_ HA0 rfl rfl fun _ H1 => ln_ <| nx <| sq_ <| sq_ <| rl_ <| wl_ <| p_ H1 rfl rfl fun _ H2 => wl_ <| i_ H2 rfl (v := .int .i64 q.length) (dd_lens rfl (H2.ev 16 rfl) Tryd.underlying9 (by rw [strB_size])) fun _ H3 => ?_
  clear HA0 H1 H2
  by_cases hc5 : (100 : Int) < q.length
  ·
   refine wl_ <| i_ H3 rfl (dd_cmp rfl (H3.ev 17 rfl) rfl (gt_t hc5)) fun _ H6 => wl_ <| p_ H6 rfl rfl fun _ H7 => wl_ <| k_ H7 (wg_ H7 rfl rfl rfl rfl) rfl fun _ H8 => wl_ <| k_ H8 (wg_ H8 rfl rfl rfl rfl) rfl fun _ H9 => wl_ <| k_ H9 (wg_ H9 rfl rfl rfl rfl) rfl fun _ H10 => wl_ <| p_ H10 rfl rfl fun _ H11 => ln_ <| nx <| ct_ H11 rfl <| sq_ <| rl_ <| wl_ <| c_ H11 rfl HS (dcs Tryd.func7 rfl (args0 ) (opwakes_any w) (.bool true)) fun _ HS12 _ H12 => wl_ <| p_ H12 rfl rfl fun _ H13 => ?_
   clear H3 H6 H7 H8 H9 H10 H11 HS
   refine ln_ <| nx <| wp_ret <| tr <| ret_run H13.env0 (res_t Tryd.results4 (H13.get 6 rfl)) <| ?_
   clear H12
   exact ⟨rfl, HS12.below⟩
  refine wl_ <| i_ H3 rfl (dd_cmp rfl (H3.ev 17 rfl) rfl (gt_f hc5)) fun _ H14 => wl_ <| p_ H14 rfl rfl fun _ H15 => wl_ <| ig H15 (wg_ H15 rfl rfl rfl rfl) rfl (dd_mv rfl (H15.ev 0 rfl)) fun _ H16 => wl_ <| cg H16 (wg_ H16 rfl rfl rfl rfl) rfl HS (v := .bool true) (dc_ Tryd.func20 rfl (args1 (H16.ev 20 rfl)) (rgoodt_all _ _ _ l w (HVl _ HS.below)) (fun _ w9 h9 => ⟨_, h9.1, by rw [hG], h9.2⟩)) fun W17 HS17 _ H17 => wl_ <| ig H17 (wg_ H17 rfl rfl rfl rfl) rfl (v := .bool false) (dd_nt rfl (H17.ev 21 rfl) rfl) fun _ H18 => wl_ <| p_ H18 rfl rfl fun _ H19 => ln_ <| nx <| cf_ H19 rfl <| wp_skip <| nx <| sq_ <| rl_ <| wl_ <| p_ H19 rfl rfl fun _ H20 => wl_ <| c_ H20 rfl HS17 (v := .tuple #[.agg (bs (encT l)), .int .i64 0]) (dc_ Tryd.func21 rfl (args1 (H20.ev 26 rfl)) (enct_any _ _ _ l W17 (HVl _ HS17.below) (by omega) hm1) (fun _ w9 h9 => ⟨_, by rw [encE_z.2 hG] at h9; exact h9.1, rfl, h9.2⟩)) fun _ HS21 _ H21 => ?_
  clear H3 H14 H15 H16 HS H17 H18 H19
  refine wl_ <| p_ H21 rfl rfl fun _ H22 => wl_ <| i_ H22 rfl (v := .agg (bs (encT l))) (dd_ext rfl (H22.ev 25 rfl) rfl) fun _ H23 => wl_ <| i_ H23 rfl (v := .int .i64 0) (dd_ext rfl (H23.ev 25 rfl) rfl) fun _ H24 => wl_ <| n_ H24 rfl (fun _ h => dd_new HS21 (bs (zer 32)) rfl (z := .agg (bs (zer 32))) (by kernel_rfl) rfl h) fun _ _ HS25 _ H25 => wl_ <| t_ rfl (fun _ h => dd_setrow HS25 0 rfl rfl (H25.ev 7 rfl) (H25.ev 28 rfl) (by kernel_rfl) (((size_bs _).trans (length_encT _)) : (bs (encT l)).size = 32) (((size_bs _).trans (length_zer 32)) : (bs (zer 32)).size = 32) (one_bs _) h) fun W26 HS26 => wl_ <| p_ H25 rfl rfl fun _ H27 => ln_ <| nx <| sq_ <| sq_ <| rl_ <| wl_ <| p_ H27 rfl rfl fun _ H28 => wl_ <| i_ H28 rfl (dd_cmp rfl (H28.ev 30 rfl) rfl (ne_f (by decide))) fun _ H29 => ?_
  clear H20 HS17 H21 H22 H23 HS21 H24 HS25 H25 H27
  refine ln_ <| ?_
  clear H28
  have H30 := H29.sel [2, 1, 0, 7, 31] rfl
  refine nx <| cf_ H30 rfl <| wp_skip <| nx <| sq_ <| rl_ <| wl_ <| i_ H30 rfl (v := .agg (bs (encT l))) (dd_load HS26 0 0 rfl rfl (H30.ev 7 rfl) (slab_whole _) Tryd.underlying23 rfl (by rw [show (bs (encT l)).size = 32 from ((size_bs _).trans (length_encT _))]; kernel_rfl)) fun _ H31 => q_ H31 2 rfl fun _ H32 => ?_
  clear H29 H30 H31
  refine wl_ <| d_ H32 rfl (R := fun v w9 => ∃ Ap34 cp34, v = .tuple #[.slice Ap34 0 cp34, .int .i64 (makeE l q x)] ∧ Below W26.heap.size W26 w9) (dc_ Tryd.func16 rfl (args3 (H32.ev 33 rfl) (H32.ev 34 rfl) (H32.ev 35 rfl)) (make_any (encT l) q x W26 (length_encT _) hq) (fun _ w9 ⟨v9, he, ho, hb⟩ => by rw [(tab_back hG).1] at he ho; rw [make_P0 hm] at ho; obtain ⟨A9, c9, rfl⟩ := own_form0 ho; exact ⟨_, he, A9, c9, rfl, hb⟩)) ?_
  rintro _ W33 ⟨Ap34, cp34, rfl, hb33⟩ a33 H33
  have HS33 := HS26.same hb33
  clear H32
  clear HS26 hb33
  refine wl_ <| p_ H33 rfl rfl fun _ H35 => wl_ <| i_ H35 rfl (v := .slice Ap34 0 cp34) (dd_ext rfl (H35.ev 32 rfl) rfl) fun _ H36 => wl_ <| i_ H36 rfl (v := .int .i64 (makeE l q x)) (dd_ext rfl (H36.ev 32 rfl) rfl) fun _ H37 => q_ H37 2 rfl fun _ H38 => ln_ <| nx <| sq_ <| sq_ <| rl_ <| wl_ <| p_ H38 rfl rfl fun _ H39 => wl_ <| i_ H39 rfl (dd_cmp rfl (H39.ev 39 rfl) rfl (ne_t hm)) fun _ H40 => ln_ <| nx <| ct_ H40 rfl <| sq_ <| rl_ <| wl_ <| p_ H40 rfl rfl fun _ H41 => wl_ <| i_ H41 rfl (v := .int .i64 0) (dd_len rfl (H41.ev 41 rfl) Tryd.underlying35) fun _ H42 => ?_
  clear H33 H35 H36 H37 H38 H39 H40
  refine wl_ <| i_ H42 rfl (dd_cmp rfl (H42.ev 42 rfl) rfl (eq_t (by decide))) fun _ H43 => wl_ <| p_ H43 rfl rfl fun _ H44 => wl_ <| cg H44 (wg_ H44 rfl rfl rfl rfl) rfl HS33 (dcs Tryd.func7 rfl (args0 ) (opwakes_any W33) (.bool true)) fun _ HS45 _ H45 => q_ H45 2 rfl fun _ H46 => ln_ <| ?_
  clear H41 H42 H43 H44 HS33 H45
  have H47 := H46.sel [6] rfl
  refine nx <| wp_ret <| tr <| ret_run H47.env0 (res_t Tryd.results4 (H47.get 6 rfl)) <| ?_
  clear H46
  exact ⟨rfl, HS45.below⟩
set_option maxHeartbeats 1600000 in
theorem opmake_yes (A : Option Addr) (n c : Nat) (l : List Tv) (q : List (BitVec 8)) (w : World) (h0 : VolsAt w (.slice A n c) (volL l)) (hq : q.length ≤ maxLen) (N : Nat) (hG : goodT l = true) (hm : makeE l q (N : Int) = 0) : Calls Tryd.prog 4 #[.slice A n c, .string (strB q), .int .i64 (N : Int)] w fun e w' => e = .returned (.bool true) ∧ Below w.heap.size w w' := by
  have HS := St.nil w noF
  have HVl : ∀ W, Below w.heap.size w W → VolsAt W (.slice A n c) (volL l) := fun W hb => h0.below hb (Nat.le_refl _)
  have hln : l.length = n := by rw [← len_volL]; exact vols_len h0
  obtain ⟨hn3, hm1⟩ := ap_small hG
  have hn3 : n ≤ 3 := by omega
  obtain ⟨hT0, hN1, hN4⟩ := make_T hm
  have hT : (takeT l N).length = N := by omega
  have hPl : (makeP l q N).length = N + 1 := by rw [make_P hm, List.length_append, List.length_map, hT]; rfl
  have hM := make_good hG hm
  have hMl : (makeL l q N).length = n + 1 := by unfold makeL; rw [List.length_append, hln]; rfl
  obtain ⟨_, hmM⟩ := ap_small hM
  have hgE : goneE (decLT (encT (makeL l q N))) q = 0 := by rw [(tab_back hM).1]; exact (make_gone hm).1
  have hgP : goneP (decLT (encT (makeL l q N))) q = [(0, encT l)] := by rw [(tab_back hM).1]; exact (make_gone hm).2
  refine enter_en Tryd.func4 rfl Tryd.ntmps4 (Nat.le_of_ble_eq_true rfl) fun a0 (HA0 : En 182 [(0, .slice A n c), (1, .string (strB q)), (2, .int .i64 N)] a0) => ?_
  refine sq_ <| rl_ <| wl_ <| p_ HA0 rfl rfl fun _ H1 => ln_ <| nx <| sq_ <| sq_ <| rl_ <| wl_ <| p_ H1 rfl rfl fun _ H2 => wl_ <| i_ H2 rfl (v := .int .i64 q.length) (dd_lens rfl (H2.ev 16 rfl) Tryd.underlying9 (by rw [strB_size])) fun _ H3 => ?_
  clear HA0 H1 H2
  by_cases hc5 : (100 : Int) < q.length
  ·
   refine wl_ <| i_ H3 rfl (dd_cmp rfl (H3.ev 17 rfl) rfl (gt_t hc5)) fun _ H6 => wl_ <| p_ H6 rfl rfl fun _ H7 => wl_ <| k_ H7 (wg_ H7 rfl rfl rfl rfl) rfl fun _ H8 => wl_ <| k_ H8 (wg_ H8 rfl rfl rfl rfl) rfl fun a9 H9 => wl_ <| k_ H9 (wg_ H9 rfl rfl rfl rfl) rfl fun _ H10 => wl_ <| p_ H10 rfl rfl fun _ H11 => ln_ <| nx <| ct_ H11 rfl <| sq_ <| rl_ <| wl_ <| c_ H11 rfl HS (dcs Tryd.func7 rfl (args0 ) (opwakes_any w) (.bool true)) fun _ HS12 _ H12 => wl_ <| p_ H12 rfl rfl fun _ H13 => ?_
   clear H3 H6 H7 H8 H9 H10 H11 HS
   refine ln_ <| nx <| wp_ret <| tr <| ret_run H13.env0 (res_t Tryd.results4 (H13.get 6 rfl)) <| ?_
   clear H12
   exact ⟨rfl, HS12.below⟩
  refine wl_ <| i_ H3 rfl (dd_cmp rfl (H3.ev 17 rfl) rfl (gt_f hc5)) fun _ H14 => wl_ <| p_ H14 rfl rfl fun _ H15 => wl_ <| ig H15 (wg_ H15 rfl rfl rfl rfl) rfl (dd_mv rfl (H15.ev 0 rfl)) fun _ H16 => wl_ <| cg H16 (wg_ H16 rfl rfl rfl rfl) rfl HS (v := .bool true) (dc_ Tryd.func20 rfl (args1 (H16.ev 20 rfl)) (rgoodt_all _ _ _ l w (HVl _ HS.below)) (fun _ w9 h9 => ⟨_, h9.1, by rw [hG], h9.2⟩)) fun W17 HS17 _ H17 => wl_ <| ig H17 (wg_ H17 rfl rfl rfl rfl) rfl (v := .bool false) (dd_nt rfl (H17.ev 21 rfl) rfl) fun _ H18 => wl_ <| p_ H18 rfl rfl fun _ H19 => ln_ <| nx <| cf_ H19 rfl <| wp_skip <| nx <| sq_ <| rl_ <| wl_ <| p_ H19 rfl rfl fun _ H20 => wl_ <| c_ H20 rfl HS17 (v := .tuple #[.agg (bs (encT l)), .int .i64 0]) (dc_ Tryd.func21 rfl (args1 (H20.ev 26 rfl)) (enct_any _ _ _ l W17 (HVl _ HS17.below) (by omega) hm1) (fun _ w9 h9 => ⟨_, by rw [encE_z.2 hG] at h9; exact h9.1, rfl, h9.2⟩)) fun _ HS21 _ H21 => ?_
  clear H3 H14 H15 H16 HS H17 H18 H19
  refine wl_ <| p_ H21 rfl rfl fun _ H22 => wl_ <| i_ H22 rfl (v := .agg (bs (encT l))) (dd_ext rfl (H22.ev 25 rfl) rfl) fun _ H23 => wl_ <| i_ H23 rfl (v := .int .i64 0) (dd_ext rfl (H23.ev 25 rfl) rfl) fun _ H24 => wl_ <| n_ H24 rfl (fun _ h => dd_new HS21 (bs (zer 32)) rfl (z := .agg (bs (zer 32))) (by kernel_rfl) rfl h) fun g7 _ HS25 _ H25 => wl_ <| t_ rfl (fun _ h => dd_setrow HS25 0 rfl rfl (H25.ev 7 rfl) (H25.ev 28 rfl) (by kernel_rfl) (((size_bs _).trans (length_encT _)) : (bs (encT l)).size = 32) (((size_bs _).trans (length_zer 32)) : (bs (zer 32)).size = 32) (one_bs _) h) fun W26 HS26 => wl_ <| p_ H25 rfl rfl fun _ H27 => ln_ <| nx <| sq_ <| sq_ <| rl_ <| wl_ <| p_ H27 rfl rfl fun _ H28 => wl_ <| i_ H28 rfl (dd_cmp rfl (H28.ev 30 rfl) rfl (ne_f (by decide))) fun _ H29 => ?_
  clear H20 HS17 H21 H22 H23 HS21 H24 HS25 H25 H27
  refine ln_ <| ?_
  clear H28
  have H30 := H29.sel [2, 1, 0, 7, 31] rfl
  refine nx <| cf_ H30 rfl <| wp_skip <| nx <| sq_ <| rl_ <| wl_ <| i_ H30 rfl (v := .agg (bs (encT l))) (dd_load HS26 0 0 rfl rfl (H30.ev 7 rfl) (slab_whole _) Tryd.underlying23 rfl (by rw [show (bs (encT l)).size = 32 from ((size_bs _).trans (length_encT _))]; kernel_rfl)) fun _ H31 => q_ H31 2 rfl fun _ H32 => ?_
  clear H29 H30 H31
  refine wl_ <| d_ H32 rfl (R := fun v w9 => ∃ gp34 cp34 cbp34, v = .tuple #[.slice (some ⟨gp34, 0, none⟩) (N + 1) cp34, .int .i64 0] ∧ (W26.heap.size ≤ gp34) ∧ (Row w9 gp34 51 cbp34) ∧ (OwnC cbp34 cp34 (N + 1) 33 (((makeP l q N).map pcell).flatten)) ∧ Below W26.heap.size W26 w9) (dc_ Tryd.func16 rfl (args3 (H32.ev 33 rfl) (H32.ev 34 rfl) (H32.ev 35 rfl)) (make_any (encT l) q N W26 (length_encT _) hq) (fun _ w9 ⟨v9, he, ho, hb⟩ => by rw [(tab_back hG).1] at he ho; rw [hm] at he; rw [hPl] at ho; obtain ⟨g9, c9, cb9, rfl, h1, h2, h3⟩ := ownc_pos ho (Nat.succ_pos _); exact ⟨_, he, g9, c9, cb9, rfl, h1, h2, h3, hb⟩)) ?_
  rintro _ W33 ⟨gp34, cp34, cbp34, rfl, hg34, hr34, Op34, hb33⟩ a33 H33
  have HS33 := HS26.same hb33
  clear H32
  have HS33j : St w noF [⟨g7, 23, bs (encT l)⟩, ⟨gp34, 51, cbp34⟩] W33 := HS26.joins hb33 hr34 hg34
  clear HS33 hr34 hg34
  clear HS26 hb33
  refine wl_ <| p_ H33 rfl rfl fun _ H35 => wl_ <| i_ H35 rfl (v := .slice (some ⟨gp34, 0, none⟩) (N + 1) cp34) (dd_ext rfl (H35.ev 32 rfl) rfl) fun _ H36 => wl_ <| i_ H36 rfl (v := .int .i64 0) (dd_ext rfl (H36.ev 32 rfl) rfl) fun _ H37 => q_ H37 2 rfl fun _ H38 => ln_ <| nx <| sq_ <| sq_ <| rl_ <| wl_ <| p_ H38 rfl rfl fun _ H39 => wl_ <| i_ H39 rfl (dd_cmp rfl (H39.ev 39 rfl) rfl (ne_f (by decide))) fun _ H40 => ln_ <| nx <| cf_ H40 rfl <| wp_skip <| nx <| sq_ <| sq_ <| rl_ <| wl_ <| p_ H40 rfl rfl fun _ H41 => wl_ <| i_ H41 rfl (dd_cmp rfl (H41.ev 47 rfl) rfl (lt_f (by omega))) fun _ H42 => ?_
  clear H33 H35 H36 H37 H38 H39 H40
  refine wl_ <| p_ H42 rfl rfl fun _ H43 => wl_ <| ig H43 (wg_ H43 rfl rfl rfl rfl) rfl (dd_mv rfl (H43.ev 9 rfl)) fun _ H44 => wl_ <| cg H44 (wg_ H44 rfl rfl rfl rfl) rfl HS33j (v := .bool true) (dc_ Tryd.func22 rfl (args1 (H44.ev 50 rfl)) (refgood_any (makeP l q N) _ W33 (puts_ownN hPl (ownc_to (HS33j.row 1 rfl) Op34 (Nat.zero_le _)) (make_bnd _ _ _)) (by rw [hPl]; unfold maxLen; omega)) (fun _ w9 h9 => ⟨_, by rw [make_goodB hm] at h9; exact h9.1, rfl, h9.2⟩)) fun W45 HS45 _ H45 => wl_ <| ig H45 (wg_ H45 rfl rfl rfl rfl) rfl (v := .bool false) (dd_nt rfl (H45.ev 51 rfl) rfl) fun _ H46 => q_ H46 2 rfl fun _ H47 => wl_ <| ig H47 (wg_ H47 rfl rfl rfl rfl) rfl (dd_mv rfl (H47.ev 9 rfl)) fun _ H48 => wl_ <| ig H48 (wg_ H48 rfl rfl rfl rfl) rfl (v := .int .i64 (N + 1)) (dd_len rfl (H48.ev 55 rfl) Tryd.underlying35) fun _ H49 => wl_ <| ig H49 (wg_ H49 rfl rfl rfl rfl) rfl (dd_mv rfl (H49.ev 2 rfl)) fun _ H50 => ?_
  clear H41 H42 H43 H44 HS33j H45 H46 H47 H48
  refine wl_ <| ig H50 (wg_ H50 rfl rfl rfl rfl) rfl (v := .int .i64 (N + 1)) (dd_ari rfl (H50.ev 57 rfl) rfl rfl (i64_of (by first | omega | (have := bd_lo; omega)) (by omega))) fun _ H51 => wl_ <| ig H51 (wg_ H51 rfl rfl rfl rfl) rfl (dd_cmp rfl (H51.ev 56 rfl) (H51.ev 58 rfl) (ne_f rfl)) fun _ H52 => q_ H52 2 rfl fun _ H53 => wl_ <| ig H53 (wg_ H53 rfl rfl rfl rfl) rfl (dd_mv rfl (H53.ev 9 rfl)) fun _ H54 => wl_ <| ig H54 (wg_ H54 rfl rfl rfl rfl) rfl (dd_mv rfl (H54.ev 2 rfl)) fun _ H55 => wl_ <| ig H55 (wg_ H55 rfl rfl rfl rfl) rfl (xSo 33 (N * 33) rfl (H55.ev 62 rfl) (H55.ev 63 rfl)) fun _ H56 => wl_ <| ig H56 (wg_ H56 rfl rfl rfl rfl) rfl (xf 0 (N * 33) rfl (H56.ev 64 rfl)) fun _ H57 => wl_ <| ig H57 (wg_ H57 rfl rfl rfl rfl) rfl (dd_getR (HS45.row 1 rfl) rfl (H57.ev 65 rfl) (put_at Op34 N (make_last hm hT) (fun x hx => (make_bnd l q N x hx).1)) Tryd.underlying3 rfl) fun _ H58 => ?_
  clear H49 H50 H51 H52 H53 H54 H55 H56
  refine wl_ <| ig H58 (wg_ H58 rfl rfl rfl rfl) rfl (dd_cmp rfl (H58.ev 66 rfl) rfl (ne_f (by decide))) fun _ H59 => wl_ <| p_ H59 rfl rfl fun _ H60 => ln_ <| ?_
  clear H57 H58 H59
  have H61 := H60.sel [2, 1, 0, 7, 9, 68] rfl
  refine nx <| cf_ H61 rfl <| wp_skip <| nx <| sq_ <| rl_ <| q_ H61 2 rfl fun _ H62 => wl_ <| i_ H62 rfl (xSo 33 (N * 33) rfl (H62.ev 70 rfl) (H62.ev 71 rfl)) fun _ H63 => wl_ <| i_ H63 rfl (xf 1 (N * 33 + 1) rfl (H63.ev 72 rfl)) fun _ H64 => wl_ <| i_ H64 rfl (v := .agg (bs (encT (makeL l q N)))) (dd_loadR (HS45.row 1 rfl) rfl (H64.ev 73 rfl) (put_dat Op34 N (make_last hm hT) (length_encT _) (fun x hx => (make_bnd l q N x hx).1)) Tryd.underlying23 rfl (by rw [show (bs (encT (makeL l q N))).size = 32 from ((size_bs _).trans (length_encT _))]; kernel_rfl)) fun _ H65 => ?_
  clear H60 H61 H62 H63 H64
  refine wl_ <| d_ H65 rfl (R := fun v w9 => ∃ bm om cm, v = .tuple #[.slice (some ⟨bm, om, none⟩) (n + 1) cm, .int .i64 0] ∧ (n + 1 ≤ cm) ∧ (VolsAt w9 (.slice (some ⟨bm, om, none⟩) (n + 1) cm) (volL (makeL l q N))) ∧ Below W45.heap.size W45 w9) (dc_ Tryd.func23 rfl (args1 (H65.ev 74 rfl)) (dect_any (encT (makeL l q N)) W45 (length_encT _)) (fun _ w9 ⟨v9, he, ho, hb⟩ => by rw [(tab_back hM).2.1] at he; rw [(tab_back hM).1] at ho; obtain ⟨A9, n9, c9, rfl, h1, h2⟩ := OV.form2 ho; obtain rfl : n9 = n + 1 := (by rw [← h1, len_volL]; exact hMl); have h3 := ho.vols (by rw [len_volL, hMl]; exact Nat.le_trans (show n + 1 ≤ 4 by omega) (by decide)); obtain ⟨b9, o9, rfl⟩ := vols_some h3 (Nat.succ_pos _); exact ⟨_, he, b9, o9, c9, rfl, h2, h3, hb⟩)) ?_
  rintro _ W66 ⟨bm, om, cm, rfl, hnc, hvd, hb66⟩ a66 H66
  have HS66 := HS45.same hb66
  clear H65
  have HBs67 : Below w.heap.size w W66 := HS66.below
  have HVlr := fun (W9 : World) (hb9 : Below W66.heap.size W66 W9) => HVl W9 (HBs67.trans (hb9.mono HBs67.size))
  clear HVl
  have HVl := HVlr
  clear HVlr
  have HR67_0 := fun (W9 : World) (hb9 : Below W66.heap.size W66 W9) => (HS66.row 0 rfl).call hb9
  have HR67_1 := fun (W9 : World) (hb9 : Below W66.heap.size W66 W9) => (HS66.row 1 rfl).call hb9
  have HSb67 := St.nil W66 noF
  clear HS66
  have HVd := fun (W9 : World) (hb9 : Below W66.heap.size W66 W9) => hvd.below hb9 (Nat.le_refl _)
  clear HS45 hb66
  refine wl_ <| p_ H66 rfl rfl fun _ H68 => wl_ <| i_ H68 rfl (v := .slice (some ⟨bm, om, none⟩) (n + 1) cm) (dd_ext rfl (H68.ev 69 rfl) rfl) fun _ H69 => wl_ <| i_ H69 rfl (v := .int .i64 0) (dd_ext rfl (H69.ev 69 rfl) rfl) fun _ H70 => q_ H70 2 rfl fun _ H71 => ln_ <| nx <| sq_ <| sq_ <| rl_ <| wl_ <| p_ H71 rfl rfl fun _ H72 => wl_ <| i_ H72 rfl (dd_cmp rfl (H72.ev 78 rfl) rfl (ne_f (by decide))) fun _ H73 => wl_ <| p_ H73 rfl rfl fun _ H74 => wl_ <| ig H74 (wg_ H74 rfl rfl rfl rfl) rfl (dd_mv rfl (H74.ev 11 rfl)) fun _ H75 => ?_
  clear H66 H68 H69 H70 H71 H72 H73
  refine wl_ <| ig H75 (wg_ H75 rfl rfl rfl rfl) rfl (v := .int .i64 (n + 1)) (dd_len rfl (H75.ev 81 rfl) Tryd.underlying33) fun _ H76 => wl_ <| ig H76 (wg_ H76 rfl rfl rfl rfl) rfl (dd_mv rfl (H76.ev 0 rfl)) fun _ H77 => wl_ <| ig H77 (wg_ H77 rfl rfl rfl rfl) rfl (v := .int .i64 n) (dd_len rfl (H77.ev 83 rfl) Tryd.underlying33) fun _ H78 => wl_ <| ig H78 (wg_ H78 rfl rfl rfl rfl) rfl (v := .int .i64 (n + 1)) (dd_ari rfl (H78.ev 84 rfl) rfl rfl (i64_of (by first | omega | (have := bd_lo; omega)) (by omega))) fun _ H79 => wl_ <| ig H79 (wg_ H79 rfl rfl rfl rfl) rfl (dd_cmp rfl (H79.ev 82 rfl) (H79.ev 85 rfl) (ne_f rfl)) fun _ H80 => q_ H80 2 rfl fun _ H81 => wl_ <| ig H81 (wg_ H81 rfl rfl rfl rfl) rfl (dd_mv rfl (H81.ev 11 rfl)) fun _ H82 => wl_ <| ig H82 (wg_ H82 rfl rfl rfl rfl) rfl (dd_mv rfl (H82.ev 0 rfl)) fun _ H83 => ?_
  clear H74 H75 H76 H77 H78 H79 H80 H81
  refine wl_ <| ig H83 (wg_ H83 rfl rfl rfl rfl) rfl (v := .int .i64 n) (dd_len rfl (H83.ev 90 rfl) Tryd.underlying33) fun _ H84 => wl_ <| ig H84 (wg_ H84 rfl rfl rfl rfl) rfl (v := .slice (some ⟨bm, om, none⟩) n cm) (dd_slh (sz := 2) rfl (H84.ev 89 rfl) (H84.ev 91 rfl) (by kernel_rfl) (by omega) (by omega) rfl) fun _ H85 => wl_ <| ig H85 (wg_ H85 rfl rfl rfl rfl) rfl (dd_mv rfl (H85.ev 0 rfl)) fun _ H86 => wl_ <| cg H86 (wg_ H86 rfl rfl rfl rfl) rfl HSb67 (v := .bool true) (dc_ Tryd.func10 rfl (args2 (H86.ev 92 rfl) (H86.ev 93 rfl)) (keepvols_any (volL l) (volL l) _ _ _ _ _ _ W66 (vols_preM (HVd _ HSb67.below) hln) (HVl _ HSb67.below) (by omega) (by omega) (vols_lenB hm1)) (fun _ w9 h9 => ⟨_, h9.1, by rw [decide_eq_true rfl], h9.2⟩)) fun _ HS87 _ H87 => wl_ <| ig H87 (wg_ H87 rfl rfl rfl rfl) rfl (v := .bool false) (dd_nt rfl (H87.ev 94 rfl) rfl) fun _ H88 => q_ H88 2 rfl fun _ H89 => wl_ <| ig H89 (wg_ H89 rfl rfl rfl rfl) rfl (dd_mv rfl (H89.ev 11 rfl)) fun _ H90 => wl_ <| ig H90 (wg_ H90 rfl rfl rfl rfl) rfl (dd_mv rfl (H90.ev 0 rfl)) fun _ H91 => ?_
  clear H82 H83 H84 H85 H86 HSb67 H87 H88 H89
  refine wl_ <| ig H91 (wg_ H91 rfl rfl rfl rfl) rfl (v := .int .i64 n) (dd_len rfl (H91.ev 99 rfl) Tryd.underlying33) fun _ H92 => wl_ <| ig H92 (wg_ H92 rfl rfl rfl rfl) rfl (xSo 2 (om + n * 2) rfl (H92.ev 98 rfl) (H92.ev 100 rfl)) fun _ H93 => wl_ <| ig H93 (wg_ H93 rfl rfl rfl rfl) rfl (xf 0 (om + n * 2) rfl (H93.ev 101 rfl)) fun _ H94 => ?_
  clear H90 H91 H92 H93
  obtain ⟨p96, L96, B96, m96, c96, hg96, hr96, hm96, hp96⟩ := vols_getC (HVd _ (Below.refl _ _)) (k := n) (by omega)
  obtain ⟨hpq96, hLT96⟩ := make_at hln hg96
  have hmN96 : m96 = N := by rw [← hm96, hLT96]; exact hT
  refine wl_ <| ig H94 (wg_ H94 rfl rfl rfl rfl) rfl (dd_at rfl (H94.ev 102 rfl) ((hr96 _ HS87.below).1 0 _ rfl) Tryd.underlying9 rfl) fun _ H95 => wl_ <| ig H95 (wg_ H95 rfl rfl rfl rfl) rfl (dd_mv rfl (H95.ev 1 rfl)) fun _ H97 => wl_ <| ig H97 (wg_ H97 rfl rfl rfl rfl) rfl (v := .bool false) (dd_nes rfl (H97.ev 103 rfl) (H97.ev 104 rfl) (by rw [bne, (sbeq_t hpq96)]; rfl)) fun _ H98 => q_ H98 2 rfl fun _ H99 => wl_ <| ig H99 (wg_ H99 rfl rfl rfl rfl) rfl (dd_mv rfl (H99.ev 11 rfl)) fun _ H100 => wl_ <| ig H100 (wg_ H100 rfl rfl rfl rfl) rfl (dd_mv rfl (H100.ev 0 rfl)) fun _ H101 => wl_ <| ig H101 (wg_ H101 rfl rfl rfl rfl) rfl (v := .int .i64 n) (dd_len rfl (H101.ev 109 rfl) Tryd.underlying33) fun _ H102 => wl_ <| ig H102 (wg_ H102 rfl rfl rfl rfl) rfl (xSo 2 (om + n * 2) rfl (H102.ev 108 rfl) (H102.ev 110 rfl)) fun _ H103 => ?_
  clear H94 H95 H97 H98 H99 H100 H101
  refine wl_ <| ig H103 (wg_ H103 rfl rfl rfl rfl) rfl (xf 1 (om + n * 2 + 1) rfl (H103.ev 111 rfl)) fun _ H104 => wl_ <| ig H104 (wg_ H104 rfl rfl rfl rfl) rfl (dd_at rfl (H104.ev 112 rfl) ((hr96 _ HS87.below).1 1 _ rfl) Tryd.underlying54 rfl) fun _ H105 => wl_ <| ig H105 (wg_ H105 rfl rfl rfl rfl) rfl (v := .int .i64 m96) (dd_len rfl (H105.ev 113 rfl) Tryd.underlying54) fun _ H106 => wl_ <| ig H106 (wg_ H106 rfl rfl rfl rfl) rfl (dd_mv rfl (H106.ev 2 rfl)) fun _ H107 => wl_ <| ig H107 (wg_ H107 rfl rfl rfl rfl) rfl (dd_cmp rfl (H107.ev 114 rfl) (H107.ev 115 rfl) (ne_f (by omega))) fun _ H108 => wl_ <| p_ H108 rfl rfl fun _ H109 => ln_ <| ?_
  clear H102 H103 H104 H105 H106 H107 H108
  have H110 := H109.sel [2, 1, 0, 7, 9, 11, 117] rfl
  refine nx <| cf_ H110 rfl <| wp_skip <| nx <| sq_ <| sq_ <| rl_ <| wl_ <| p_ H110 rfl rfl fun _ H111 => ln_ <| nx <| wp_block <| ?_
  clear H109 H110
  refine wp_loopG (ι := Nat) (fun k a9 w9 => (k ≤ N) ∧ En 182 [(13, .int .i64 k), (11, .slice (some ⟨bm, om, none⟩) (n + 1) cm), (9, .slice (some ⟨gp34, 0, none⟩) (N + 1) cp34), (7, .pointer (some ⟨g7, 0, none⟩)), (0, .slice A n c), (1, .string (strB q)), (2, .int .i64 N)] a9 ∧ St W66 noF [] w9) (fun k => N - k) (0) ⟨Nat.zero_le _, H111.sel [2, 1, 0, 7, 9, 11, 13] rfl, ss HS87 []⟩ ?_
  clear H111 HS87
  rintro k aL112 wL112 ⟨hk, HL112, HSL112⟩
  refine sq_ <| sq_ <| rl_ <| q_ HL112 2 rfl fun _ H113 => ?_
  clear HL112
  by_cases hc115 : (k : Int) < N
  ·
   refine wl_ <| i_ H113 rfl (dd_cmp rfl (H113.ev 118 rfl) (H113.ev 119 rfl) (lt_t hc115)) fun _ H116 => ln_ <| nx <| ct_ H116 rfl <| wp_skip <| nx <| sq_ <| wp_block <| sq_ <| ?_
   clear H113
   refine wi_ HSL112 [] rfl [] rfl fun HSh117 hx117 => hp_ H116 0 hx117 rfl rfl rfl fun _ H118 => hp_ H118 1 hx117 rfl rfl rfl fun _ H119 => ht_ H119 2 hx117 rfl rfl (fun _ _ _ => xSo 33 (k * 33) rfl (H119.ev 123 rfl) (H119.ev 124 rfl)) fun _ H120 => ht_ H120 3 hx117 rfl rfl (fun _ _ _ => xf 0 (k * 33) rfl (H120.ev 125 rfl)) fun _ H121 => ht_ H121 4 hx117 rfl rfl (fun _ _ HS9 => dd_getR (HR67_1 _ HS9.below) rfl (H121.ev 126 rfl) (put_at Op34 k (make_nth hm hT (by omega)) (fun x hx => (make_bnd l q N x hx).1)) Tryd.underlying3 rfl) fun _ H122 => hp_ H122 5 hx117 rfl rfl rfl fun _ H123 => hp_ H123 6 hx117 rfl rfl rfl fun _ H124 => ?_
   clear HSL112 H116 H118 H119 H120 H121 H122
   refine ht_ H124 7 hx117 rfl rfl (v := .int .i64 n) (fun _ _ _ => dd_len rfl (H124.ev 129 rfl) Tryd.underlying33) fun _ H125 => ht_ H125 8 hx117 rfl rfl (fun _ _ _ => xSo 2 (om + n * 2) rfl (H125.ev 128 rfl) (H125.ev 130 rfl)) fun _ H126 => ht_ H126 9 hx117 rfl rfl (fun _ _ _ => xf 1 (om + n * 2 + 1) rfl (H126.ev 131 rfl)) fun _ H127 => ht_ H127 10 hx117 rfl rfl (fun _ _ HS9 => dd_at rfl (H127.ev 132 rfl) ((hr96 _ HS9.below).1 1 _ rfl) Tryd.underlying54 rfl) fun _ H128 => hp_ H128 11 hx117 rfl rfl rfl fun _ H129 => ?_
   clear H123 H124 H125 H126 H127 H128
   obtain ⟨bi96, oi96, hB96⟩ := ints_addr (hr96 _ (Below.refl _ _)).2 (by omega)
   refine ht_ H129 12 hx117 rfl rfl (fun _ _ _ => dd_idxS (sz := 1) (j := oi96 + k) rfl (sl_at (H129.ev 133 rfl) hB96) (H129.ev 134 rfl) (by kernel_rfl) (by omega) (by omega) (by omega)) fun _ H130 => ht_ H130 13 hx117 rfl rfl (fun _ _ HS9 => dd_at rfl (H130.ev 135 rfl) (ints_atB (hr96 _ HS9.below).2 hB96 k (by omega)) Tryd.underlying3 rfl) fun _ H131 => ht_ H131 14 hx117 rfl rfl (fun _ _ _ => dd_cmp rfl (H131.ev 127 rfl) (H131.ev 136 rfl) (ne_f (by rw [hLT96]))) fun _ H132 => hp_ H132 15 hx117 rfl rfl rfl fun _ H133 => htg H133 16 hx117 rfl (wg_ H133 rfl rfl rfl rfl) rfl (fun _ _ _ => dd_mv rfl (H133.ev 9 rfl)) fun _ H134 => htg H134 17 hx117 rfl (wg_ H134 rfl rfl rfl rfl) rfl (fun _ _ _ => dd_mv rfl (H134.ev 13 rfl)) fun _ H135 => htg H135 18 hx117 rfl (wg_ H135 rfl rfl rfl rfl) rfl (fun _ _ _ => xSo 33 (k * 33) rfl (H135.ev 139 rfl) (H135.ev 140 rfl)) fun _ H136 => htg H136 19 hx117 rfl (wg_ H136 rfl rfl rfl rfl) rfl (fun _ _ _ => xf 1 (k * 33 + 1) rfl (H136.ev 141 rfl)) fun _ H137 => ?_
   clear H129 H130 H131 H132 H133 H134 H135
   refine htg H137 20 hx117 rfl (wg_ H137 rfl rfl rfl rfl) rfl (v := .agg (bs (zer 32))) (fun _ _ HS9 => dd_loadR (HR67_1 _ HS9.below) rfl (H137.ev 142 rfl) (put_dat Op34 k (make_nth hm hT (by omega)) (length_zer 32) (fun x hx => (make_bnd l q N x hx).1)) Tryd.underlying23 rfl (by rw [show (bs (zer 32)).size = 32 from ((size_bs _).trans (length_zer 32))]; kernel_rfl)) fun _ H138 => htg H138 21 hx117 rfl (wg_ H138 rfl rfl rfl rfl) rfl (v := .agg (bs (zer 32))) (fun _ _ _ => dd_bldk rfl (ps := []) (pr0) (cs := bs (zer 32)) (by kernel_rfl)) fun _ H139 => htg H139 22 hx117 rfl (wg_ H139 rfl rfl rfl rfl) rfl (v := .bool false) (fun _ _ _ => dd_nea (b := true) rfl (H139.ev 143 rfl) (H139.ev 144 rfl) (by kernel_rfl) (fun w => by have h9 := eql_blk (zer 32) (zer 32) (length_zer 32) (length_zer 32) w; rw [decide_eq_true rfl] at h9; exact h9) rfl) fun _ H140 => hp_ H140 23 hx117 rfl rfl rfl fun _ H141 => ?_
   clear H136 H137 H138 H139 H140
   refine wpAnyH_done (by kernel_rfl) ?_ _
   clear hx117
   refine nx <| cf_ H141 rfl <| wp_skip <| bn <| nx <| rl_ <| wl_ <| p_ H141 rfl rfl fun _ H142 => wl_ <| i_ H142 rfl (v := .int .i64 (k + 1)) (dd_ari rfl (H142.ev 121 rfl) rfl rfl (i64_of (by first | omega | (have := bd_lo; omega)) (by omega))) fun _ H143 => wl_ <| p_ H143 rfl rfl fun _ H144 => ln_ <| ?_
   clear H141 H142 H143
   have H145 := H144.sel [2, 1, 0, 7, 9, 11, 13] rfl
   clear H144
   refine nx ⟨k + 1, ⟨(by omega), H145.sel [2, 1, 0, 7, 9, 11, 13] rfl, ss HSh117 []⟩, (by omega)⟩
  refine wl_ <| i_ H113 rfl (dd_cmp rfl (H113.ev 118 rfl) (H113.ev 119 rfl) (lt_f hc115)) fun _ H146 => ln_ <| nx <| cf_ H146 rfl <| wp_exit <| tx <| tx <| bx <| nx <| sq_ <| rl_ <| q_ H146 2 rfl fun _ H147 => wl_ <| i_ H147 rfl (xSo 33 (N * 33) rfl (H147.ev 148 rfl) (H147.ev 149 rfl)) fun _ H148 => wl_ <| i_ H148 rfl (xf 1 (N * 33 + 1) rfl (H148.ev 150 rfl)) fun _ H149 => wl_ <| i_ H149 rfl (v := .agg (bs (encT (makeL l q N)))) (dd_loadR (HR67_1 _ HSL112.below) rfl (H149.ev 151 rfl) (put_dat Op34 N (make_last hm hT) (length_encT _) (fun x hx => (make_bnd l q N x hx).1)) Tryd.underlying23 rfl (by rw [show (bs (encT (makeL l q N))).size = 32 from ((size_bs _).trans (length_encT _))]; kernel_rfl)) fun _ H150 => wl_ <| p_ H150 rfl rfl fun _ H151 => ?_
  clear H113 H146 H147 H148 H149 H150
  refine wl_ <| d_ H151 rfl (R := fun v w9 => ∃ gp153 cp153 cbp153, v = .tuple #[.slice (some ⟨gp153, 0, none⟩) 1 cp153, .int .i64 0] ∧ (wL112.heap.size ≤ gp153) ∧ (Row w9 gp153 51 cbp153) ∧ (OwnC cbp153 cp153 1 33 (((([(0, encT l)] : List Pt)).map pcell).flatten)) ∧ Below wL112.heap.size wL112 w9) (dc_ Tryd.func18 rfl (args2 (H151.ev 152 rfl) (H151.ev 153 rfl)) (gone_any (encT (makeL l q N)) q wL112 (length_encT _)) (fun _ w9 ⟨v9, he, ho, hb⟩ => by rw [hgE] at he; rw [hgP] at ho; obtain ⟨g9, c9, cb9, rfl, h1, h2, h3⟩ := ownc_pos ho (Nat.succ_pos _); exact ⟨_, he, g9, c9, cb9, rfl, h1, h2, h3, hb⟩)) ?_
  rintro _ W152 ⟨gp153, cp153, cbp153, rfl, hg153, hr153, Op153, hb152⟩ a152 H152
  have HS152 := HSL112.same hb152
  clear H151
  have HS152j : St W66 noF [⟨gp153, 51, cbp153⟩] W152 := HSL112.joins hb152 hr153 hg153
  clear HS152 hr153 hg153
  clear HSL112 hb152
  refine wl_ <| p_ H152 rfl rfl fun _ H154 => wl_ <| i_ H154 rfl (v := .slice (some ⟨gp153, 0, none⟩) 1 cp153) (dd_ext rfl (H154.ev 147 rfl) rfl) fun _ H155 => wl_ <| i_ H155 rfl (v := .int .i64 0) (dd_ext rfl (H155.ev 147 rfl) rfl) fun _ H156 => q_ H156 2 rfl fun _ H157 => ln_ <| ?_
  clear H152 H154 H155 H156
  have H158 := H157.sel [7, 14, 15] rfl
  refine nx <| sq_ <| ?_
  clear H157
  refine wi_ HS152j [] rfl [0] rfl fun HSh159 hx159 => hp_ H158 0 hx159 rfl rfl rfl fun _ H160 => ht_ H160 1 hx159 rfl rfl (fun _ _ _ => dd_cmp rfl (H160.ev 157 rfl) rfl (eq_t (by decide))) fun _ H161 => hp_ H161 2 hx159 rfl rfl rfl fun _ H162 => htg H162 3 hx159 rfl (wg_ H162 rfl rfl rfl rfl) rfl (fun _ _ _ => dd_mv rfl (H162.ev 14 rfl)) fun _ H163 => htg H163 4 hx159 rfl (wg_ H163 rfl rfl rfl rfl) rfl (v := .int .i64 1) (fun _ _ _ => dd_len rfl (H163.ev 160 rfl) Tryd.underlying35) fun _ H164 => htg H164 5 hx159 rfl (wg_ H164 rfl rfl rfl rfl) rfl (fun _ _ _ => dd_cmp rfl (H164.ev 161 rfl) rfl (eq_t (by decide))) fun _ H165 => hp_ H165 6 hx159 rfl rfl rfl fun _ H166 => ?_
  clear HS152j H158 H160 H161 H162 H163 H164
  refine hp_ H166 7 hx159 rfl rfl rfl fun _ H167 => htg H167 8 hx159 rfl (wg_ H167 rfl rfl rfl rfl) rfl (fun _ _ _ => dd_mv rfl (H167.ev 14 rfl)) fun _ H168 => htg H168 9 hx159 rfl (wg_ H168 rfl rfl rfl rfl) rfl (fun _ _ _ => xS 33 0 rfl (H168.ev 165 rfl) rfl) fun _ H169 => htg H169 10 hx159 rfl (wg_ H169 rfl rfl rfl rfl) rfl (fun _ _ _ => xf 0 0 rfl (H169.ev 166 rfl)) fun _ H170 => h1_ 11 rfl <| ig H170 (wg_ H170 rfl rfl rfl rfl) rfl (dd_get HSh159 0 0 rfl rfl (H170.ev 167 rfl) (put_at Op153 0 rfl (pt_cons (length_encT _) pt_nil)) Tryd.underlying3 rfl) fun _ H171 => sx_ (sxi HSh159 [0] rfl) fun hx172 => htg H171 12 hx172 rfl (wg_ H171 rfl rfl rfl rfl) rfl (fun _ _ _ => dd_cmp rfl (H171.ev 168 rfl) rfl (eq_t (by decide))) fun _ H173 => hp_ H173 13 hx172 rfl rfl rfl fun _ H174 => ?_
  clear H165 H166 H167 H168 H169 H170 hx159 H171
  refine hp_ H174 14 hx172 rfl rfl rfl fun _ H175 => htg H175 15 hx172 rfl (wg_ H175 rfl rfl rfl rfl) rfl (fun _ _ _ => dd_mv rfl (H175.ev 14 rfl)) fun _ H176 => htg H176 16 hx172 rfl (wg_ H176 rfl rfl rfl rfl) rfl (fun _ _ _ => xS 33 0 rfl (H176.ev 172 rfl) rfl) fun _ H177 => htg H177 17 hx172 rfl (wg_ H177 rfl rfl rfl rfl) rfl (fun _ _ _ => xf 1 1 rfl (H177.ev 173 rfl)) fun _ H178 => htg H178 19 hx172 rfl (wg_ H178 rfl rfl rfl rfl) rfl (v := .agg (bs (encT l))) (fun _ _ HS9 => dd_loadR (HR67_0 _ HS9.below) rfl (H178.ev 7 rfl) (slab_whole _) Tryd.underlying23 rfl (by rw [show (bs (encT l)).size = 32 from ((size_bs _).trans (length_encT _))]; kernel_rfl)) fun _ H179 => h1_ 18 rfl <| ig H179 (wg_ H179 rfl rfl rfl rfl) rfl (v := .agg (bs (encT l))) (dd_load HSh159 0 1 rfl rfl (H179.ev 174 rfl) (put_dat Op153 0 rfl (length_encT _) (pt_cons (length_encT _) pt_nil)) Tryd.underlying23 rfl (by rw [show (bs (encT l)).size = 32 from ((size_bs _).trans (length_encT _))]; kernel_rfl)) fun _ H180 => sx_ (sxi HSh159 [0] rfl) fun hx181 => htg H180 20 hx181 rfl (wg_ H180 rfl rfl rfl rfl) rfl (v := .bool true) (fun _ _ _ => dd_eqa (b := true) rfl (H180.ev 175 rfl) (H180.ev 176 rfl) (by kernel_rfl) (fun w => by have h9 := eql_blk (encT l) (encT l) (length_encT _) (length_encT _) w; rw [decide_eq_true rfl] at h9; exact h9)) fun _ H182 => ?_
  clear H173 H174 H175 H176 H177 H178 H179 hx172
  refine hp_ H182 21 hx181 rfl rfl rfl fun _ H183 => hp_ H183 22 hx181 rfl rfl rfl fun _ H184 => h1_ 23 rfl <| cg H184 (wg_ H184 rfl rfl rfl rfl) rfl HSh159 (dcs Tryd.func7 rfl (args0 ) (opwakes_any W152.drew) (.bool true)) fun _ HS185 _ H185 => sx_ (sxi HS185 [0] rfl) fun hx186 => hp_ H185 24 hx186 rfl rfl rfl fun _ H187 => hp_ H187 25 hx186 rfl rfl rfl fun _ H188 => ?_
  clear H180 H182 H183 H184 HSh159 hx181 H185 H187
  refine wpAnyH_done (by kernel_rfl) ?_ _
  clear hx186
  refine nx <| wp_ret <| ret_run H188.env0 (res_t Tryd.results4 (H188.get 6 rfl)) <| ?_
  exact ⟨rfl, (HBs67.trans (HS185.below.mono HBs67.size))⟩
theorem opmake_walk (A : Option Addr) (n c : Nat) (l0 : List Vl) (q : List (BitVec 8)) (x : Int) (w : World) (h0 : VolsAt w (.slice A n c) l0) (_ : n ≤ maxLen) (hq : q.length ≤ maxLen) : Calls Tryd.prog 4 #[.slice A n c, .string (strB q), .int .i64 x] w fun e w' => e = .returned (.bool true) ∧ Below w.heap.size w w' := by
  obtain ⟨l, rfl⟩ := volL_all l0
  cases hG : goodT l with
  | false => exact opmake_bad A n c l q w h0 hq x hG
  | true =>
    by_cases hm : makeE l q x = 0
    · obtain ⟨N, hN⟩ := Int.eq_ofNat_of_zero_le (show 0 ≤ x by have := make_T hm; omega)
      subst hN
      exact opmake_yes A n c l q w h0 hq N hG hm
    · exact opmake_no A n c l q w h0 hq x hG hm
end Go.Proofs.YtlfliojadjgplaaDoor

/- OpsMake, as its tied card: for every slice of volumes, name and number the call returns true and changes nothing that it was handed. Conditions: those of the row (the tables of runes lie as the program's text lays them, which the card ties to the pruned copy). -/
set_option maxRecDepth 4000
namespace Go.Proofs.YtlfliojadjgplaaDoor.opsMake
open Go Go.ChangeShapes Go.WideShapes Go.ChangeAt Go.RowKit

theorem contract (H : Type) (enc : TypeId × Value → H) (W : World) (base : Nat) (args : Array Value) (ds gs : List (DataW H)) (before : List MemPlace)
    (hval : ∀ (j : Nat) t v, Tryd.f4.params[j]? = some t → args[j]? = some v → Value.okWide Tryd.prog W .any base t v)
    (hW : DataW.Whole enc Tryd.prog Tryd.f4.params.toList Rows.opsMakeSpec.vars false W args.toList ds gs before) (_ : laidMetH Tryd.prog Rows.opsMakeRow.laid W) :
    Calls Tryd.prog 4 args W fun e W' => ∃ v, e = .returned v ∧ Rows.opsMakeSpec.post enc Tryd.prog Tryd.f4 false true false false W args v W' := by
  have hW' := hW
  obtain ⟨p, q, hA0, hV, rfl, _, _⟩ := hW
  have hA : DataW.TrodAll enc Tryd.prog W 0 (fun _ => true) true Tryd.f4.params.toList args.toList ds p := hA0
  rw [Tryd.params4] at hA hval
  obtain ⟨v0, vs0, d0, ds0, p0, q0, hargs, rfl, rfl, h0, r0⟩ := trodAll_cons hA
  obtain ⟨v1, vs1, d1, ds1, p1, q1, rfl, rfl, rfl, h1, r1⟩ := trodAll_cons r0
  obtain ⟨v2, vs2, d2, ds2, p2, q2, rfl, rfl, rfl, h2, r2⟩ := trodAll_cons r1
  obtain ⟨rfl, rfl, rfl⟩ := trodAll_nil r2
  obtain rfl : args = #[v0, v1, v2] := by cases args; simp_all
  obtain ⟨rfl, rfl⟩ := trodVars_none hV
  have hlt0 : ∀ x ∈ p0, x.block < W.heap.size := fun x hx => hW'.lt x (by simp [hx])
  have hlt1 : ∀ x ∈ p1, x.block < W.heap.size := fun x hx => hW'.lt x (by simp [hx])
  obtain ⟨A0, n0, c0, l0, rfl, hS0, hm0⟩ := open_vols (hval 0 33 v0 rfl rfl) h0 hlt0
  obtain ⟨q1, rfl, hm1⟩ := open_name (hval 1 9 v1 rfl rfl) h1
  obtain ⟨n2, rfl, rfl, rfl, wn2⟩ := open_int Tryd.underlying3 (hval 2 3 v2 rfl rfl) h2
  refine (opmake_walk A0 n0 c0 l0 q1 n2 W hS0 hm0 hm1 ).mono fun e W' ⟨he, hb⟩ => ?_
  subst he
  exact ⟨_, rfl, [d0, d1, .lit (.int .i64 n2)], [], _, [], _, [], hW', trodAll_cons_mk (shut_bool Tryd.underlying4 _) trodAll_mk0, trodAll_cons_mk (Below.trod laidOutT (by kernel_rfl) (of_decide_eq_true (by kernel_rfl)) h0 hb hlt0) (trodAll_cons_mk (Below.trod laidOutT (by kernel_rfl) (of_decide_eq_true (by kernel_rfl)) h1 hb hlt1) (trodAll_cons_mk (shut_int Tryd.underlying3 wn2) trodAll_mk0)), rfl, hb.frame _, fun h => by cases h⟩

theorem laid_met (os : Os) : laidMet Tryd.prog Rows.opsMakeRow.laid ((laidWorld os).forCall (fun _ _ => 0) ⟨#[], #[.slice none 0 0, .string ⟨#[]⟩, .int .i64 0], []⟩).memory :=
  laidMet_of_run' 8 (by kernel_rfl) (by kernel_rfl)
theorem reads (os : Os) {H : Type} (enc : TypeId × Value → H) : ∃ places, DataW.whole enc Tryd.prog ((laidWorld os).forCall (fun _ _ => 0) ⟨#[], #[.slice none 0 0, .string ⟨#[]⟩, .int .i64 0], []⟩).memory Tryd.f4.params.toList Rows.opsMakeSpec.vars false #[(Value.slice none 0 0), (Value.string ⟨#[]⟩), (Value.int .i64 0)].toList 8 = some ([.nil, .lit (.string []), .lit (.int .i64 0)], [], places) :=
  ⟨[], by kernel_rfl⟩

set_option maxRecDepth 100000 in
theorem lifted (os : Os) (started : os.Started) (H : Type) (enc : TypeId × Value → H) (F : Stop.Interp) :
    ReturnsInHanded {} Tryd.checked os 4 .any ((OpenSpec.ofChange Rows.opsMakeSpec).preRow enc Tryd.prog Tryd.f4 Rows.opsMakeRow.domain false Rows.opsMakeRow.laid) (((OpenSpec.ofChange Rows.opsMakeSpec).at F).post enc Tryd.prog Tryd.f4 false true false false) := by
  obtain ⟨places, hx⟩ := reads os enc
  refine returnsInHanded_of_row (C := Tryd.checked) (s := OpenSpec.ofChange Rows.opsMakeSpec) ownK started (by kernel_rfl) Tryd.func4
    (witness_row_at (enc := enc) (C := Tryd.checked) false (laidWorld os) #[.slice none 0 0, .string ⟨#[]⟩, .int .i64 0] rfl (by kernel_rfl) (by kernel_rfl) (by kernel_rfl)
      (OpenSpec.preRow_of_cond 8 hx (by kernel_rfl) (fun k hk => by cases hk) (by kernel_rfl) (laid_met os))) ?_
  intro W base args ds gs before hval hW _ _ _ hL _ _
  exact contract H enc W base args ds gs before hval hW hL

theorem said : Rows.OpsMakeSaid :=
  OpenClaim.holds_of_cond 4 Tryd.f4 rfl rfl rfl rfl rfl rfl rfl ⟨rfl, rfl, rfl, rfl, rfl⟩ rfl rfl rfl rfl rfl (by kernel_rfl) Tryd.func4 (by kernel_rfl)
    (of_decide_eq_true (by kernel_rfl)) (by unfold Func.isWrapper; first | (rw [if_pos (by decide +kernel)]; kernel_rfl) | (rw [if_neg (by decide +kernel)]; exact ⟨rfl, rfl⟩))
    (fun os started H enc _ F => by rw [OpenClaim.pre_eq_preRow]; exact lifted os started H enc F)

theorem plain (f : FuncId) (fn : Func) (hf : Tryd.pinned.checked.prog.funcNamed Rows.opsMakeRow.func = some f) (hfn : Tryd.pinned.checked.prog.funcs[f]? = some fn) :
    false = Tryd.pinned.checked.prog.looks [] ∧ ∀ (j : Nat) t, fn.params[j]? = some t → Tryd.pinned.checked.prog.wantsStandIn t = false := by
  obtain rfl : f = 4 := Option.some.inj ((show Tryd.prog.funcNamed Rows.opsMakeRow.func = some 4 by kernel_rfl).symm.trans hf) |>.symm
  obtain rfl : fn = Tryd.f4 := (Option.some.inj (Tryd.func4.symm.trans hfn)).symm
  refine ⟨by kernel_rfl, fun j t ht => ?_⟩
  rw [Tryd.params4] at ht
  have hm : t = 33 ∨ t = 9 ∨ t = 3 := by simpa using Array.mem_of_getElem? ht
  rcases hm with rfl | rfl | rfl
  · exact (show Tryd.prog.wantsStandIn 33 = false by kernel_rfl)
  · exact (show Tryd.prog.wantsStandIn 9 = false by kernel_rfl)
  · exact (show Tryd.prog.wantsStandIn 3 = false by kernel_rfl)

theorem card : Rows.OpsMakeCardSaid :=
  Claim7.holds_tied_plain_at .later [] _ _ _ _ said (fun _ h => by cases h) (by kernel_rfl) (fun _ h => by cases h) opsMake_row_tie rfl ⟨rfl, rfl⟩ (by kernel_rfl) rfl plain (by kernel_rfl)
end Go.Proofs.YtlfliojadjgplaaDoor.opsMake
