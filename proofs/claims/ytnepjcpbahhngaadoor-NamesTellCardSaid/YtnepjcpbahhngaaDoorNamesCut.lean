/- The document's name of four bytes. -/
import Derived.Test.YtnepjcpbahhngaaDoorNamesRef
import Derived.Test.YtnepjcpbahhngaaDoorPhs
import Derived.Deep.DeepCutAuto
import Derived.Deep.CutBlock
set_option maxRecDepth 4000
namespace Go.Proofs.YtnepjcpbahhngaaDoor
open Go Go.RowKit
attribute [local go_sem] strB_size
def nmC (s : List (BitVec 8)) (b : Bool) : Array Value := #[.string (strB s), .bool b]
theorem nm_zero : (#[.string ⟨#[]⟩, .bool false] : Array Value) = nmC [] false := by unfold nmC; rw [str_lit0]
theorem one_nm (s : List (BitVec 8)) (b : Bool) : (Value.agg (nmC s b)).cells.all (·.oneCell') = true := by
  rw [Array.all_eq_true_iff_forall_mem]; intro v hv
  have : v ∈ #[Value.string (strB s), Value.bool b] := hv
  simp only [List.mem_toArray, List.mem_cons, List.mem_nil_iff, or_false] at this
  rcases this with rfl | rfl <;> rfl
theorem size_nm : (Tryd.prog.info? 29).map (·.size) = some 2 := by kernel_rfl
theorem neq_b4 (p q : List (BitVec 8)) (hp : p.length = 4) (hq : q.length = 4) (w : World) : (Op.equalIn 10000 23 (.agg (bs p)) (.agg (bs q))).run Tryd.prog w = .ok (decide (p = q)) w := equal_bytes _ 4 p q hp hq Tryd.underlying23 w
theorem first_take {b : List (BitVec 8)} {k : Nat} (hk : k ≤ b.length) (h : ∀ j < k, ¬ b.getD j 0#8 = 0#8) (h0 : k = b.length ∨ b.getD k 0#8 = 0#8) : firstZ b = b.take k := by
  have e : b = b.take k ++ b.drop k := (List.take_append_drop k b).symm
  unfold firstZ
  conv => lhs; rw [e]
  rw [List.takeWhile_append_of_pos]
  · have : (b.drop k).takeWhile (fun x => decide (x ≠ 0#8)) = [] := by
      rcases h0 with rfl | h0
      · rw [List.drop_length]; rfl
      · by_cases hl : k < b.length
        · rw [List.drop_eq_getElem_cons hl, List.takeWhile_cons_of_neg]
          rw [List.getD_eq_getElem?_getD, List.getElem?_eq_getElem hl] at h0
          simpa using h0
        · rw [List.drop_of_length_le (by omega)]; rfl
    rw [this, List.append_nil]
  · intro x hx
    obtain ⟨j, hj, rfl⟩ := List.getElem_of_mem hx
    rw [List.length_take] at hj
    have := h j (by omega)
    rw [List.getD_eq_getElem?_getD, List.getElem?_eq_getElem (by omega)] at this
    rw [List.getElem_take]
    simpa using this
set_option maxRecDepth 20000 in
set_option maxHeartbeats 3200000 in
theorem refcutn_any (b : List (BitVec 8)) (w : World) (hl : b.length = 4) :
    Calls Tryd.prog 10 #[.agg (bs b)] w fun e w' => e = .returned (.agg (nmC (cutN b).1 (cutN b).2)) ∧ Below w.heap.size w w' := by
  rw [← cut_eq hl]
  have HL := Lib.hid hl
  have hnz := nm_zero
  have HS := St.nil w noF
  go_enter Tryd.func10, Tryd.ntmps10
  go_upto_region 2 with (first | ((with_reducible refine wpList_plain ?_ ?_); exact rfl; intro KK hKK; refine wp_st_box HS 23 (.tmp 0) rfl _ rfl (bs b) (rfl) (fun g1 W1 HSx => hKK _ _ ?_); clear hKK KK HS; have HS : St w noF [⟨g1, 23, bs b⟩] W1 := HSx; clear HSx) | ((with_reducible refine wpList_plain ?_ ?_); exact rfl; intro KK hKK; refine wp_st_alloc HS 29 (nmC [] false) rfl (.agg (nmC [] false)) (by kernel_rfl) (nm_zero) (fun g2 W2 HSx => hKK _ _ ?_); clear hKK KK HS; have HS : St w noF [⟨g1, 23, bs b⟩, ⟨g2, 29, nmC [] false⟩] W2 := HSx; clear HSx))
  go_loopw [3] (fun i wr => ∃ k : Nat, k ≤ 4 ∧ i = .int .i64 k ∧ (∀ j < k, ¬ b.getD j 0#8 = 0#8) ∧ wr = W2) (fun i _ => 4 - (intOf i).toNat)
  case atStart => exact ⟨0, by omega, rfl, fun j hj => by omega, rfl⟩
  case round =>
    obtain ⟨k, hk4, rfl, hnz', rfl⟩ := hrel
    have HNZ := Lib.hid hnz'
    clear hnz'
    by_cases h4 : k < 4
    · have hd4 : decide ((k : Int) < 4) = true := decide_eq_true (by omega)
      have hk0 : (0 : Int) ≤ (k : Int) := by omega
      have hk1 : (k : Int) < 4 := by omega
      obtain ⟨x, hx⟩ : ∃ x, b.getD k 0#8 = x := ⟨_, rfl⟩
      have hc : wr.cell? ⟨g1, k, none⟩ = some (.int .u8 (bd x)) := (HS.row 0 rfl).get ((get_bs b k (by rw [HL.out]; exact h4)).trans (congrArg (fun y => some (Value.int .u8 (bd y))) hx))
      have HX := Lib.hid hx
      clear hx
      have hw : IntKind.i64.wrap ((k : Int) + 1) = ((k + 1 : Nat) : Int) := by rw [i64_id _ (by omega) (by omega)]; omega
      by_cases h0 : x = 0#8
      · have hb1 : (bd x == 0) = true := by rw [h0]; rfl
        have HF : Hid (firstZ b = b.take k) := Lib.hid (first_take (by rw [HL.out]; omega) HNZ.out (.inr (by rw [HX.out, h0])))
        clear h0
        obtain ⟨t, ht⟩ : ∃ t, b.take k = t := ⟨_, rfl⟩
        have HTL : Hid (t.length = k) := Lib.hid (by rw [← ht, List.length_take, HL.out]; omega)
        have hsl : Slice wr (.slice (some ⟨g1, 0, none⟩) k 4) t := by
          have := row_piece (HS.row 0 rfl) (off := 0) (n := k) (c := 4) (by rw [HL.out]; omega) hk4
          rwa [List.drop_zero, ht] at this
        have hcv := conv_bytes hsl 9 Tryd.underlying9
        have HR : Hid (cutR b = if (decide (padN t = b) && (decide (t = []) || goodN t)) then (t, true) else ([], false)) := Lib.hid (by unfold cutR okFirst; rw [HF.out, ht])
        have HM : Hid (t.length ≤ maxLen) := Lib.hid (by rw [HTL.out]; unfold maxLen; omega)
        have hk0 : (0 : Int) ≤ (k : Int) := by omega
        have hk4' : (k : Int) ≤ 4 := by omega
        clear ht hsl
        have HQ := Lib.hid (fun W => neq_b4 (padN t) b (length_padN t) HL.out W)
        go_upto_region 5 with fail
        clear HF
        clear hcv
        have hF0 : Wl [fun W => St w noF [⟨g1, 23, bs b⟩, ⟨g2, 29, nmC [] false⟩] W] 0 wr.drew := HS.drew
        by_cases hp : padN t = b
        case neg =>
          have HPD := Lib.hid (decide_eq_false hp)
          have HE : Hid (cutR b = ([], false)) := Lib.hid (by rw [HR.out, HPD.out]; rfl)
          clear hp HS
          refine wp_region_phs [is (.string (strB t)), is ((.agg (bs (padN t)))), is (.agg (bs b)), is (.bool true), is (.bool true), is undef, is undef, is undef, is undef, is undef, is undef, is undef, is undef, is (.bool true)] [true, true, true, true, true, true, true, true, true, true, true, true, true, true] [(fun W => St w noF [⟨g1, 23, bs b⟩, ⟨g2, 29, nmC [] false⟩] W)] [false, false, false, false, false, false, false, false, false, false, false, false, false, false] [some 0, some 0, some 0, some 0, some 0, some 0, some 0, some 0, some 0, some 0, some 0, some 0, some 0, some 0] [some 18, some 19, some 20, some 21, some 22, some 23, some 24, some 25, some 26, some 27, some 28, some 29, some 30, some 31] 14 0 (fun i => !([5, 6, 7, 8, 9, 10, 11, 12] : List Nat).contains i) rfl rfl (by kernel_rfl) (by kernel_rfl) (by kernel_rfl) (by kernel_rfl) ?_ ?_ ?_ ?_ ?_ ?_
          · repeat first | exact wok_nil | refine wok_cons (by first | exact fun _ _ h k => h.same k) ?_
          · repeat first | exact vok_nil | refine vok_rig (by first | exact fun _ _ _ h => h) ?_ | refine vok_soft (by first | exact fun _ _ _ h _ => h) ?_
          · exact hF0
          · repeat first | exact all_end (by decide) | refine all_cons (by first | exact rfl | exact ⟨rfl, fun _ _ h => Or.inl h⟩ | exact ⟨rfl, fun _ _ h => Or.inr ⟨h, rfl⟩⟩) ?_
          · refine allp_mild 0 rfl rfl rfl (fun a x W hout hin hP => ?_) ?_
            · have e4 : a.tmps[4]? = some (.string (strB t)) := (hout 4 (by kernel_rfl)).trans rfl
              exact does_move rfl e4 ⟨Same.refl _, rfl⟩
            refine allp_mild 0 rfl rfl rfl (fun a x W hout hin hP => ?_) ?_
            · have e18 := hin.is 0 18 (by kernel_rfl) (by decide) (by kernel_rfl) (by kernel_rfl) _ rfl
              have C := refpad_any t W HM.out
              clear hP
              clear hin hout
              intro K0 Q hK
              go_simp
              refine C.mono ?_
              rintro e W' ⟨rfl, hb⟩
              exact hK _ _ ⟨hb, rfl⟩
            refine allp_mild 0 rfl rfl rfl (fun a x W hout hin hP => ?_) ?_
            · have e1 : a.tmps[1]? = some (.pointer (some ⟨g1, 0, none⟩)) := (hout 1 (by kernel_rfl)).trans rfl
              clear hin hout
              intro K0 Q hK
              exact wp_st_load hP 0 0 23 (.tmp 1) rfl rfl (eval_of_get e1) (bs b) (slab_whole _) _ Tryd.underlying23 rfl (by rw [size_bs, HL.out]; exact size_b4) (hK _ _ ⟨Same.refl _, rfl⟩)
            refine allp_mild 0 rfl rfl rfl (fun a x W hout hin hP => ?_) ?_
            · have e19 := hin.is 1 19 (by kernel_rfl) (by decide) (by kernel_rfl) (by kernel_rfl) _ rfl
              have e20 := hin.is 2 20 (by kernel_rfl) (by decide) (by kernel_rfl) (by kernel_rfl) _ rfl
              have q := HQ.out W
              rw [HPD.out] at q
              clear hP
              clear hin hout
              intro K0 Q hK
              go_simp
              exact hK _ _ ⟨Same.refl _, rfl⟩
            refine allp_mild 0 rfl rfl rfl (fun a x W hout hin hP => ?_) ?_
            · have e21 := hin.is 3 21 (by kernel_rfl) (by decide) (by kernel_rfl) (by kernel_rfl) _ rfl
              exact does_move rfl e21 ⟨Same.refl _, rfl⟩
            refine allp_skip rfl rfl (fun _ => rfl) ?_
            refine allp_skip rfl rfl (fun _ => rfl) ?_
            refine allp_skip rfl rfl (fun _ => rfl) ?_
            refine allp_skip rfl rfl (fun _ => rfl) ?_
            refine allp_skip rfl rfl (fun _ => rfl) ?_
            refine allp_skip rfl rfl (fun _ => rfl) ?_
            refine allp_skip rfl rfl (fun _ => rfl) ?_
            refine allp_skip rfl rfl (fun _ => rfl) ?_
            refine allp_mild 0 rfl rfl rfl (fun a x W hout hin hP => ?_) ?_
            · have e22 := hin.is 4 22 (by kernel_rfl) (by decide) (by kernel_rfl) (by kernel_rfl) _ rfl
              have e30 := hin.is 12 30 (by kernel_rfl) (by decide) (by kernel_rfl) (by kernel_rfl) _ rfl
              exact does_pick rfl e22 ⟨Same.refl _, rfl⟩
            exact all_end (by decide)
          · intro x W hP hV
            have h31 : x 13 = .bool true := hV 13 (by decide) (.inl (by kernel_rfl))
            have HS : St w noF [⟨g1, 23, bs b⟩, ⟨g2, 29, nmC [] false⟩] W := hP
            clear hV hP
            simp only [putL, Act.put, List.setIfInBounds_toArray, List.set_cons_succ, List.set_cons_zero, h31]
            refine wpAnyH_done (by kernel_rfl) ?_ _
            clear h31
            go_wp2_with (first | ((with_reducible refine wpList_plain ?_ ?_); exact rfl; intro KK hKK; refine wp_st_store HS 1 0 29 (.tmp 2) (.tmp 32) rfl rfl rfl (.agg (nmC [] false)) rfl (size_nm) (Nat.le_of_eq rfl) (one_nm _ _) (nmC [] false) (spl_agg _ _ _ rfl rfl) (fun W11 HSx => hKK _ _ ?_); clear hKK KK HS; have HS : St w noF [⟨g1, 23, bs b⟩, ⟨g2, 29, nmC [] false⟩] W11 := HSx; clear HSx))
            exact bodyPost_ret (v := .agg (nmC [] false)) (results_cell_row Tryd.results10 _ _ g2 29 (nmC [] false) (0, 0) _ rfl (HS.row 1 rfl) Tryd.underlying29 rfl size_nm) rfl ⟨by rw [HE.out], HS.below⟩
        case pos =>
        have HPD := Lib.hid (decide_eq_true hp)
        clear hp
        by_cases h0 : k = 0
        · have hdk : decide ((0 : Int) < (k : Int)) = false := decide_eq_false (by omega)
          have ht0 : t = [] := List.length_eq_zero_iff.1 (by rw [HTL.out, h0])
          have HE : Hid (cutR b = (t, true)) := Lib.hid (by rw [HR.out, HPD.out, decide_eq_true ht0]; rfl)
          clear HS ht0
          refine wp_region_phs [is (.string (strB t)), is ((.agg (bs (padN t)))), is (.agg (bs b)), is (.bool false), is (.bool false), is (.int .i64 k), is (.bool false), is (.bool false), is undef, is undef, is undef, is undef, is (.bool false), is (.bool false)] [true, true, true, true, true, true, true, true, true, true, true, true, true, true] [(fun W => St w noF [⟨g1, 23, bs b⟩, ⟨g2, 29, nmC [] false⟩] W)] [false, false, false, false, false, false, false, false, false, false, false, false, false, false] [some 0, some 0, some 0, some 0, some 0, some 0, some 0, some 0, some 0, some 0, some 0, some 0, some 0, some 0] [some 18, some 19, some 20, some 21, some 22, some 23, some 24, some 25, some 26, some 27, some 28, some 29, some 30, some 31] 14 0 (fun i => !([8, 9, 10, 11] : List Nat).contains i) rfl rfl (by kernel_rfl) (by kernel_rfl) (by kernel_rfl) (by kernel_rfl) ?_ ?_ ?_ ?_ ?_ ?_
          · repeat first | exact wok_nil | refine wok_cons (by first | exact fun _ _ h k => h.same k) ?_
          · repeat first | exact vok_nil | refine vok_rig (by first | exact fun _ _ _ h => h) ?_ | refine vok_soft (by first | exact fun _ _ _ h _ => h) ?_
          · exact hF0
          · repeat first | exact all_end (by decide) | refine all_cons (by first | exact rfl | exact ⟨rfl, fun _ _ h => Or.inl h⟩ | exact ⟨rfl, fun _ _ h => Or.inr ⟨h, rfl⟩⟩) ?_
          · refine allp_mild 0 rfl rfl rfl (fun a x W hout hin hP => ?_) ?_
            · have e4 : a.tmps[4]? = some (.string (strB t)) := (hout 4 (by kernel_rfl)).trans rfl
              exact does_move rfl e4 ⟨Same.refl _, rfl⟩
            refine allp_mild 0 rfl rfl rfl (fun a x W hout hin hP => ?_) ?_
            · have e18 := hin.is 0 18 (by kernel_rfl) (by decide) (by kernel_rfl) (by kernel_rfl) _ rfl
              have C := refpad_any t W HM.out
              clear hP
              clear hin hout
              intro K0 Q hK
              go_simp
              refine C.mono ?_
              rintro e W' ⟨rfl, hb⟩
              exact hK _ _ ⟨hb, rfl⟩
            refine allp_mild 0 rfl rfl rfl (fun a x W hout hin hP => ?_) ?_
            · have e1 : a.tmps[1]? = some (.pointer (some ⟨g1, 0, none⟩)) := (hout 1 (by kernel_rfl)).trans rfl
              clear hin hout
              intro K0 Q hK
              exact wp_st_load hP 0 0 23 (.tmp 1) rfl rfl (eval_of_get e1) (bs b) (slab_whole _) _ Tryd.underlying23 rfl (by rw [size_bs, HL.out]; exact size_b4) (hK _ _ ⟨Same.refl _, rfl⟩)
            refine allp_mild 0 rfl rfl rfl (fun a x W hout hin hP => ?_) ?_
            · have e19 := hin.is 1 19 (by kernel_rfl) (by decide) (by kernel_rfl) (by kernel_rfl) _ rfl
              have e20 := hin.is 2 20 (by kernel_rfl) (by decide) (by kernel_rfl) (by kernel_rfl) _ rfl
              have q := HQ.out W
              rw [HPD.out] at q
              clear hP
              clear hin hout
              intro K0 Q hK
              go_simp
              exact hK _ _ ⟨Same.refl _, rfl⟩
            refine allp_mild 0 rfl rfl rfl (fun a x W hout hin hP => ?_) ?_
            · have e21 := hin.is 3 21 (by kernel_rfl) (by decide) (by kernel_rfl) (by kernel_rfl) _ rfl
              exact does_move rfl e21 ⟨Same.refl _, rfl⟩
            refine allp_mild 0 rfl rfl rfl (fun a x W hout hin hP => ?_) ?_
            · have e3 : a.tmps[3]? = some (.int .i64 k) := (hout 3 (by kernel_rfl)).trans rfl
              exact does_move rfl e3 ⟨Same.refl _, rfl⟩
            refine allp_mild 0 rfl rfl rfl (fun a x W hout hin hP => ?_) ?_
            · have e23 := hin.is 5 23 (by kernel_rfl) (by decide) (by kernel_rfl) (by kernel_rfl) _ rfl
              clear hin hout
              intro K Q hK
              go_simp
              exact hK _ _ ⟨Same.refl _, rfl⟩
            refine allp_mild 0 rfl rfl rfl (fun a x W hout hin hP => ?_) ?_
            · have e24 := hin.is 6 24 (by kernel_rfl) (by decide) (by kernel_rfl) (by kernel_rfl) _ rfl
              exact does_move rfl e24 ⟨Same.refl _, rfl⟩
            refine allp_skip rfl rfl (fun _ => rfl) ?_
            refine allp_skip rfl rfl (fun _ => rfl) ?_
            refine allp_skip rfl rfl (fun _ => rfl) ?_
            refine allp_skip rfl rfl (fun _ => rfl) ?_
            refine allp_mild 0 rfl rfl rfl (fun a x W hout hin hP => ?_) ?_
            · have e25 := hin.is 7 25 (by kernel_rfl) (by decide) (by kernel_rfl) (by kernel_rfl) _ rfl
              have e29 := hin.is 11 29 (by kernel_rfl) (by decide) (by kernel_rfl) (by kernel_rfl) _ rfl
              exact does_pick rfl e25 ⟨Same.refl _, rfl⟩
            refine allp_mild 0 rfl rfl rfl (fun a x W hout hin hP => ?_) ?_
            · have e22 := hin.is 4 22 (by kernel_rfl) (by decide) (by kernel_rfl) (by kernel_rfl) _ rfl
              have e30 := hin.is 12 30 (by kernel_rfl) (by decide) (by kernel_rfl) (by kernel_rfl) _ rfl
              exact does_pick rfl e22 ⟨Same.refl _, eval_of_get e30⟩
            exact all_end (by decide)
          · intro x W hP hV
            have h31 : x 13 = .bool false := hV 13 (by decide) (.inl (by kernel_rfl))
            have HS : St w noF [⟨g1, 23, bs b⟩, ⟨g2, 29, nmC [] false⟩] W := hP
            clear hV hP
            simp only [putL, Act.put, List.setIfInBounds_toArray, List.set_cons_succ, List.set_cons_zero, h31]
            refine wpAnyH_done (by kernel_rfl) ?_ _
            clear h31
            go_wp2_with (first | ((with_reducible refine wpList_plain ?_ ?_); exact rfl; intro KK hKK; refine wp_st_store HS 1 0 29 (.tmp 2) (.tmp 34) rfl rfl rfl (.agg (nmC t true)) rfl (size_nm) (Nat.le_of_eq rfl) (one_nm _ _) (nmC t true) (spl_agg _ _ _ rfl rfl) (fun W11 HSx => hKK _ _ ?_); clear hKK KK HS; have HS : St w noF [⟨g1, 23, bs b⟩, ⟨g2, 29, nmC t true⟩] W11 := HSx; clear HSx))
            exact bodyPost_ret (v := .agg (nmC t true)) (results_cell_row Tryd.results10 _ _ g2 29 (nmC t true) (0, 0) _ rfl (HS.row 1 rfl) Tryd.underlying29 rfl size_nm) rfl ⟨by rw [HE.out], HS.below⟩
        · have hdk : decide ((0 : Int) < (k : Int)) = true := decide_eq_true (by omega)
          have hkk : 0 < k := by omega
          have ht0 : ¬ t = [] := fun h => h0 (by rw [← HTL.out, h]; rfl)
          cases hg : goodN t with
          | true =>
            have HG := Lib.hid hg
            have HE : Hid (cutR b = (t, true)) := Lib.hid (by rw [HR.out, HPD.out, hg, Bool.or_true]; rfl)
            clear HS ht0 hg
            refine wp_region_phs [is (.string (strB t)), is ((.agg (bs (padN t)))), is (.agg (bs b)), is (.bool false), is (.bool false), is (.int .i64 k), is (.bool true), is (.bool true), is (.string (strB t)), (fun v W => Strs W v [t]), is (.bool true), is (.bool false), is (.bool false), is (.bool false)] [true, true, true, true, true, true, true, true, true, false, true, true, true, true] [(fun W => St w noF [⟨g1, 23, bs b⟩, ⟨g2, 29, nmC [] false⟩] W)] [false, false, false, false, false, false, false, false, false, false, false, false, false, false] [some 0, some 0, some 0, some 0, some 0, some 0, some 0, some 0, some 0, some 0, some 0, some 0, some 0, some 0] [some 18, some 19, some 20, some 21, some 22, some 23, some 24, some 25, some 26, some 27, some 28, some 29, some 30, some 31] 14 0 (fun _ => true) rfl rfl (by kernel_rfl) (by kernel_rfl) (by kernel_rfl) (by kernel_rfl) ?_ ?_ ?_ ?_ ?_ ?_
            · repeat first | exact wok_nil | refine wok_cons (by first | exact fun _ _ h k => h.same k) ?_
            · repeat first | exact vok_nil | refine vok_rig (by first | exact fun _ _ _ h => h) ?_ | refine vok_soft (by first | exact fun _ _ _ h _ => h | exact fun _ _ _ h k => Strs.below h k (Nat.le_refl _)) ?_
            · exact hF0
            · repeat first | exact all_end (by decide) | refine all_cons (by first | exact rfl | exact ⟨rfl, fun _ _ h => Or.inl h⟩ | exact ⟨rfl, fun _ _ h => Or.inr ⟨h, rfl⟩⟩) ?_
            · refine allp_mild 0 rfl rfl rfl (fun a x W hout hin hP => ?_) ?_
              · have e4 : a.tmps[4]? = some (.string (strB t)) := (hout 4 (by kernel_rfl)).trans rfl
                exact does_move rfl e4 ⟨Same.refl _, rfl⟩
              refine allp_mild 0 rfl rfl rfl (fun a x W hout hin hP => ?_) ?_
              · have e18 := hin.is 0 18 (by kernel_rfl) (by decide) (by kernel_rfl) (by kernel_rfl) _ rfl
                have C := refpad_any t W HM.out
                clear hP
                clear hin hout
                intro K0 Q hK
                go_simp
                refine C.mono ?_
                rintro e W' ⟨rfl, hb⟩
                exact hK _ _ ⟨hb, rfl⟩
              refine allp_mild 0 rfl rfl rfl (fun a x W hout hin hP => ?_) ?_
              · have e1 : a.tmps[1]? = some (.pointer (some ⟨g1, 0, none⟩)) := (hout 1 (by kernel_rfl)).trans rfl
                clear hin hout
                intro K0 Q hK
                exact wp_st_load hP 0 0 23 (.tmp 1) rfl rfl (eval_of_get e1) (bs b) (slab_whole _) _ Tryd.underlying23 rfl (by rw [size_bs, HL.out]; exact size_b4) (hK _ _ ⟨Same.refl _, rfl⟩)
              refine allp_mild 0 rfl rfl rfl (fun a x W hout hin hP => ?_) ?_
              · have e19 := hin.is 1 19 (by kernel_rfl) (by decide) (by kernel_rfl) (by kernel_rfl) _ rfl
                have e20 := hin.is 2 20 (by kernel_rfl) (by decide) (by kernel_rfl) (by kernel_rfl) _ rfl
                have q := HQ.out W
                rw [HPD.out] at q
                clear hP
                clear hin hout
                intro K0 Q hK
                go_simp
                exact hK _ _ ⟨Same.refl _, rfl⟩
              refine allp_mild 0 rfl rfl rfl (fun a x W hout hin hP => ?_) ?_
              · have e21 := hin.is 3 21 (by kernel_rfl) (by decide) (by kernel_rfl) (by kernel_rfl) _ rfl
                exact does_move rfl e21 ⟨Same.refl _, rfl⟩
              refine allp_mild 0 rfl rfl rfl (fun a x W hout hin hP => ?_) ?_
              · have e3 : a.tmps[3]? = some (.int .i64 k) := (hout 3 (by kernel_rfl)).trans rfl
                exact does_move rfl e3 ⟨Same.refl _, rfl⟩
              refine allp_mild 0 rfl rfl rfl (fun a x W hout hin hP => ?_) ?_
              · have e23 := hin.is 5 23 (by kernel_rfl) (by decide) (by kernel_rfl) (by kernel_rfl) _ rfl
                clear hin hout
                intro K Q hK
                go_simp
                exact hK _ _ ⟨Same.refl _, rfl⟩
              refine allp_mild 0 rfl rfl rfl (fun a x W hout hin hP => ?_) ?_
              · have e24 := hin.is 6 24 (by kernel_rfl) (by decide) (by kernel_rfl) (by kernel_rfl) _ rfl
                exact does_move rfl e24 ⟨Same.refl _, rfl⟩
              refine allp_mild 0 rfl rfl rfl (fun a x W hout hin hP => ?_) ?_
              · have e4 : a.tmps[4]? = some (.string (strB t)) := (hout 4 (by kernel_rfl)).trans rfl
                exact does_move rfl e4 ⟨Same.refl _, rfl⟩
              refine allp_mild 0 rfl rfl rfl (fun a x W hout hin hP => ?_) ?_
              · have e26 := hin.is 8 26 (by kernel_rfl) (by decide) (by kernel_rfl) (by kernel_rfl) _ rfl
                clear hP
                clear hin hout
                intro K0 Q hK
                go_simp
                exact hK _ _ ⟨Same.alloc _ _, strs1 W t HM.out 9⟩
              refine allp_mild 0 rfl rfl rfl (fun a x W hout hin hP => ?_) ?_
              · obtain ⟨v27, e27, hv27⟩ := hin.get 9 27 (by kernel_rfl) (by decide) (by kernel_rfl) (.inr ⟨rfl, by kernel_rfl⟩)
                have C := (show goodNs [t] = true by unfold goodNs; simp [HG.out]) ▸ refgoodn_any [t] _ W hv27 (by unfold maxLen; simp)
                clear hP
                clear hin hout
                intro K0 Q hK
                go_simp
                refine C.mono ?_
                rintro e W' ⟨rfl, rfl⟩
                exact hK _ _ ⟨Same.refl _, rfl⟩
              refine allp_mild 0 rfl rfl rfl (fun a x W hout hin hP => ?_) ?_
              · have e28 := hin.is 10 28 (by kernel_rfl) (by decide) (by kernel_rfl) (by kernel_rfl) _ rfl
                exact does_not rfl e28 ⟨Same.refl _, rfl⟩
              refine allp_mild 0 rfl rfl rfl (fun a x W hout hin hP => ?_) ?_
              · have e25 := hin.is 7 25 (by kernel_rfl) (by decide) (by kernel_rfl) (by kernel_rfl) _ rfl
                have e29 := hin.is 11 29 (by kernel_rfl) (by decide) (by kernel_rfl) (by kernel_rfl) _ rfl
                exact does_pick rfl e25 ⟨Same.refl _, eval_of_get e29⟩
              refine allp_mild 0 rfl rfl rfl (fun a x W hout hin hP => ?_) ?_
              · have e22 := hin.is 4 22 (by kernel_rfl) (by decide) (by kernel_rfl) (by kernel_rfl) _ rfl
                have e30 := hin.is 12 30 (by kernel_rfl) (by decide) (by kernel_rfl) (by kernel_rfl) _ rfl
                exact does_pick rfl e22 ⟨Same.refl _, eval_of_get e30⟩
              exact all_end (by decide)
            · intro x W hP hV
              have h31 : x 13 = .bool false := hV 13 (by decide) (.inl (by kernel_rfl))
              have HS : St w noF [⟨g1, 23, bs b⟩, ⟨g2, 29, nmC [] false⟩] W := hP
              clear hV hP
              simp only [putL, Act.put, List.setIfInBounds_toArray, List.set_cons_succ, List.set_cons_zero, h31]
              refine wpAnyH_done (by kernel_rfl) ?_ _
              clear h31
              go_wp2_with (first | ((with_reducible refine wpList_plain ?_ ?_); exact rfl; intro KK hKK; refine wp_st_store HS 1 0 29 (.tmp 2) (.tmp 34) rfl rfl rfl (.agg (nmC t true)) rfl (size_nm) (Nat.le_of_eq rfl) (one_nm _ _) (nmC t true) (spl_agg _ _ _ rfl rfl) (fun W11 HSx => hKK _ _ ?_); clear hKK KK HS; have HS : St w noF [⟨g1, 23, bs b⟩, ⟨g2, 29, nmC t true⟩] W11 := HSx; clear HSx))
              exact bodyPost_ret (v := .agg (nmC t true)) (results_cell_row Tryd.results10 _ _ g2 29 (nmC t true) (0, 0) _ rfl (HS.row 1 rfl) Tryd.underlying29 rfl size_nm) rfl ⟨by rw [HE.out], HS.below⟩
          | false =>
            have HG := Lib.hid hg
            have HE : Hid (cutR b = ([], false)) := Lib.hid (by rw [HR.out, HPD.out, hg, decide_eq_false ht0]; rfl)
            clear HS ht0 hg
            refine wp_region_phs [is (.string (strB t)), is ((.agg (bs (padN t)))), is (.agg (bs b)), is (.bool false), is (.bool false), is (.int .i64 k), is (.bool true), is (.bool true), is (.string (strB t)), (fun v W => Strs W v [t]), is (.bool false), is (.bool true), is (.bool true), is (.bool true)] [true, true, true, true, true, true, true, true, true, false, true, true, true, true] [(fun W => St w noF [⟨g1, 23, bs b⟩, ⟨g2, 29, nmC [] false⟩] W)] [false, false, false, false, false, false, false, false, false, false, false, false, false, false] [some 0, some 0, some 0, some 0, some 0, some 0, some 0, some 0, some 0, some 0, some 0, some 0, some 0, some 0] [some 18, some 19, some 20, some 21, some 22, some 23, some 24, some 25, some 26, some 27, some 28, some 29, some 30, some 31] 14 0 (fun _ => true) rfl rfl (by kernel_rfl) (by kernel_rfl) (by kernel_rfl) (by kernel_rfl) ?_ ?_ ?_ ?_ ?_ ?_
            · repeat first | exact wok_nil | refine wok_cons (by first | exact fun _ _ h k => h.same k) ?_
            · repeat first | exact vok_nil | refine vok_rig (by first | exact fun _ _ _ h => h) ?_ | refine vok_soft (by first | exact fun _ _ _ h _ => h | exact fun _ _ _ h k => Strs.below h k (Nat.le_refl _)) ?_
            · exact hF0
            · repeat first | exact all_end (by decide) | refine all_cons (by first | exact rfl | exact ⟨rfl, fun _ _ h => Or.inl h⟩ | exact ⟨rfl, fun _ _ h => Or.inr ⟨h, rfl⟩⟩) ?_
            · refine allp_mild 0 rfl rfl rfl (fun a x W hout hin hP => ?_) ?_
              · have e4 : a.tmps[4]? = some (.string (strB t)) := (hout 4 (by kernel_rfl)).trans rfl
                exact does_move rfl e4 ⟨Same.refl _, rfl⟩
              refine allp_mild 0 rfl rfl rfl (fun a x W hout hin hP => ?_) ?_
              · have e18 := hin.is 0 18 (by kernel_rfl) (by decide) (by kernel_rfl) (by kernel_rfl) _ rfl
                have C := refpad_any t W HM.out
                clear hP
                clear hin hout
                intro K0 Q hK
                go_simp
                refine C.mono ?_
                rintro e W' ⟨rfl, hb⟩
                exact hK _ _ ⟨hb, rfl⟩
              refine allp_mild 0 rfl rfl rfl (fun a x W hout hin hP => ?_) ?_
              · have e1 : a.tmps[1]? = some (.pointer (some ⟨g1, 0, none⟩)) := (hout 1 (by kernel_rfl)).trans rfl
                clear hin hout
                intro K0 Q hK
                exact wp_st_load hP 0 0 23 (.tmp 1) rfl rfl (eval_of_get e1) (bs b) (slab_whole _) _ Tryd.underlying23 rfl (by rw [size_bs, HL.out]; exact size_b4) (hK _ _ ⟨Same.refl _, rfl⟩)
              refine allp_mild 0 rfl rfl rfl (fun a x W hout hin hP => ?_) ?_
              · have e19 := hin.is 1 19 (by kernel_rfl) (by decide) (by kernel_rfl) (by kernel_rfl) _ rfl
                have e20 := hin.is 2 20 (by kernel_rfl) (by decide) (by kernel_rfl) (by kernel_rfl) _ rfl
                have q := HQ.out W
                rw [HPD.out] at q
                clear hP
                clear hin hout
                intro K0 Q hK
                go_simp
                exact hK _ _ ⟨Same.refl _, rfl⟩
              refine allp_mild 0 rfl rfl rfl (fun a x W hout hin hP => ?_) ?_
              · have e21 := hin.is 3 21 (by kernel_rfl) (by decide) (by kernel_rfl) (by kernel_rfl) _ rfl
                exact does_move rfl e21 ⟨Same.refl _, rfl⟩
              refine allp_mild 0 rfl rfl rfl (fun a x W hout hin hP => ?_) ?_
              · have e3 : a.tmps[3]? = some (.int .i64 k) := (hout 3 (by kernel_rfl)).trans rfl
                exact does_move rfl e3 ⟨Same.refl _, rfl⟩
              refine allp_mild 0 rfl rfl rfl (fun a x W hout hin hP => ?_) ?_
              · have e23 := hin.is 5 23 (by kernel_rfl) (by decide) (by kernel_rfl) (by kernel_rfl) _ rfl
                clear hin hout
                intro K Q hK
                go_simp
                exact hK _ _ ⟨Same.refl _, rfl⟩
              refine allp_mild 0 rfl rfl rfl (fun a x W hout hin hP => ?_) ?_
              · have e24 := hin.is 6 24 (by kernel_rfl) (by decide) (by kernel_rfl) (by kernel_rfl) _ rfl
                exact does_move rfl e24 ⟨Same.refl _, rfl⟩
              refine allp_mild 0 rfl rfl rfl (fun a x W hout hin hP => ?_) ?_
              · have e4 : a.tmps[4]? = some (.string (strB t)) := (hout 4 (by kernel_rfl)).trans rfl
                exact does_move rfl e4 ⟨Same.refl _, rfl⟩
              refine allp_mild 0 rfl rfl rfl (fun a x W hout hin hP => ?_) ?_
              · have e26 := hin.is 8 26 (by kernel_rfl) (by decide) (by kernel_rfl) (by kernel_rfl) _ rfl
                clear hP
                clear hin hout
                intro K0 Q hK
                go_simp
                exact hK _ _ ⟨Same.alloc _ _, strs1 W t HM.out 9⟩
              refine allp_mild 0 rfl rfl rfl (fun a x W hout hin hP => ?_) ?_
              · obtain ⟨v27, e27, hv27⟩ := hin.get 9 27 (by kernel_rfl) (by decide) (by kernel_rfl) (.inr ⟨rfl, by kernel_rfl⟩)
                have C := (show goodNs [t] = false by unfold goodNs; simp [HG.out]) ▸ refgoodn_any [t] _ W hv27 (by unfold maxLen; simp)
                clear hP
                clear hin hout
                intro K0 Q hK
                go_simp
                refine C.mono ?_
                rintro e W' ⟨rfl, rfl⟩
                exact hK _ _ ⟨Same.refl _, rfl⟩
              refine allp_mild 0 rfl rfl rfl (fun a x W hout hin hP => ?_) ?_
              · have e28 := hin.is 10 28 (by kernel_rfl) (by decide) (by kernel_rfl) (by kernel_rfl) _ rfl
                exact does_not rfl e28 ⟨Same.refl _, rfl⟩
              refine allp_mild 0 rfl rfl rfl (fun a x W hout hin hP => ?_) ?_
              · have e25 := hin.is 7 25 (by kernel_rfl) (by decide) (by kernel_rfl) (by kernel_rfl) _ rfl
                have e29 := hin.is 11 29 (by kernel_rfl) (by decide) (by kernel_rfl) (by kernel_rfl) _ rfl
                exact does_pick rfl e25 ⟨Same.refl _, eval_of_get e29⟩
              refine allp_mild 0 rfl rfl rfl (fun a x W hout hin hP => ?_) ?_
              · have e22 := hin.is 4 22 (by kernel_rfl) (by decide) (by kernel_rfl) (by kernel_rfl) _ rfl
                have e30 := hin.is 12 30 (by kernel_rfl) (by decide) (by kernel_rfl) (by kernel_rfl) _ rfl
                exact does_pick rfl e22 ⟨Same.refl _, eval_of_get e30⟩
              exact all_end (by decide)
            · intro x W hP hV
              have h31 : x 13 = .bool true := hV 13 (by decide) (.inl (by kernel_rfl))
              have HS : St w noF [⟨g1, 23, bs b⟩, ⟨g2, 29, nmC [] false⟩] W := hP
              clear hV hP
              simp only [putL, Act.put, List.setIfInBounds_toArray, List.set_cons_succ, List.set_cons_zero, h31]
              refine wpAnyH_done (by kernel_rfl) ?_ _
              clear h31
              go_wp2_with (first | ((with_reducible refine wpList_plain ?_ ?_); exact rfl; intro KK hKK; refine wp_st_store HS 1 0 29 (.tmp 2) (.tmp 32) rfl rfl rfl (.agg (nmC [] false)) rfl (size_nm) (Nat.le_of_eq rfl) (one_nm _ _) (nmC [] false) (spl_agg _ _ _ rfl rfl) (fun W11 HSx => hKK _ _ ?_); clear hKK KK HS; have HS : St w noF [⟨g1, 23, bs b⟩, ⟨g2, 29, nmC [] false⟩] W11 := HSx; clear HSx))
              exact bodyPost_ret (v := .agg (nmC [] false)) (results_cell_row Tryd.results10 _ _ g2 29 (nmC [] false) (0, 0) _ rfl (HS.row 1 rfl) Tryd.underlying29 rfl size_nm) rfl ⟨by rw [HE.out], HS.below⟩
      · have hb1 : (bd x == 0) = false := beq_eq_false_iff_ne.2 fun e => h0 (bd_inj (by rw [e]; rfl))
        have HX0 : Hid (¬ b.getD k 0#8 = 0#8) := Lib.hid (by rw [HX.out]; exact h0)
        clear h0
        go_wp2_with fail
        refine ⟨⟨k + 1, by omega, by go_num, fun j hj => ?_, trivial⟩, by simp [intOf]; omega⟩
        rcases Nat.lt_succ_iff_lt_or_eq.1 hj with h | h
        · exact HNZ.out j h
        · subst h; exact HX0.out
    · have hd4 : decide ((k : Int) < 4) = false := decide_eq_false (by omega)
      have HF : Hid (firstZ b = b.take k) := Lib.hid (first_take (by rw [HL.out]; omega) HNZ.out (.inl (by rw [HL.out]; omega)))
      obtain ⟨t, ht⟩ : ∃ t, b.take k = t := ⟨_, rfl⟩
      have HTL : Hid (t.length = k) := Lib.hid (by rw [← ht, List.length_take, HL.out]; omega)
      have hsl : Slice wr (.slice (some ⟨g1, 0, none⟩) k 4) t := by
        have := row_piece (HS.row 0 rfl) (off := 0) (n := k) (c := 4) (by rw [HL.out]; omega) hk4
        rwa [List.drop_zero, ht] at this
      have hcv := conv_bytes hsl 9 Tryd.underlying9
      have HR : Hid (cutR b = if (decide (padN t = b) && (decide (t = []) || goodN t)) then (t, true) else ([], false)) := Lib.hid (by unfold cutR okFirst; rw [HF.out, ht])
      have HM : Hid (t.length ≤ maxLen) := Lib.hid (by rw [HTL.out]; unfold maxLen; omega)
      have hk0 : (0 : Int) ≤ (k : Int) := by omega
      have hk4' : (k : Int) ≤ 4 := by omega
      clear ht hsl
      have HQ := Lib.hid (fun W => neq_b4 (padN t) b (length_padN t) HL.out W)
      go_upto_region 5 with fail
      clear HF
      clear hcv
      have hF0 : Wl [fun W => St w noF [⟨g1, 23, bs b⟩, ⟨g2, 29, nmC [] false⟩] W] 0 wr.drew := HS.drew
      by_cases hp : padN t = b
      case neg =>
        have HPD := Lib.hid (decide_eq_false hp)
        have HE : Hid (cutR b = ([], false)) := Lib.hid (by rw [HR.out, HPD.out]; rfl)
        clear hp HS
        refine wp_region_phs [is (.string (strB t)), is ((.agg (bs (padN t)))), is (.agg (bs b)), is (.bool true), is (.bool true), is undef, is undef, is undef, is undef, is undef, is undef, is undef, is undef, is (.bool true)] [true, true, true, true, true, true, true, true, true, true, true, true, true, true] [(fun W => St w noF [⟨g1, 23, bs b⟩, ⟨g2, 29, nmC [] false⟩] W)] [false, false, false, false, false, false, false, false, false, false, false, false, false, false] [some 0, some 0, some 0, some 0, some 0, some 0, some 0, some 0, some 0, some 0, some 0, some 0, some 0, some 0] [some 18, some 19, some 20, some 21, some 22, some 23, some 24, some 25, some 26, some 27, some 28, some 29, some 30, some 31] 14 0 (fun i => !([5, 6, 7, 8, 9, 10, 11, 12] : List Nat).contains i) rfl rfl (by kernel_rfl) (by kernel_rfl) (by kernel_rfl) (by kernel_rfl) ?_ ?_ ?_ ?_ ?_ ?_
        · repeat first | exact wok_nil | refine wok_cons (by first | exact fun _ _ h k => h.same k) ?_
        · repeat first | exact vok_nil | refine vok_rig (by first | exact fun _ _ _ h => h) ?_ | refine vok_soft (by first | exact fun _ _ _ h _ => h) ?_
        · exact hF0
        · repeat first | exact all_end (by decide) | refine all_cons (by first | exact rfl | exact ⟨rfl, fun _ _ h => Or.inl h⟩ | exact ⟨rfl, fun _ _ h => Or.inr ⟨h, rfl⟩⟩) ?_
        · refine allp_mild 0 rfl rfl rfl (fun a x W hout hin hP => ?_) ?_
          · have e4 : a.tmps[4]? = some (.string (strB t)) := (hout 4 (by kernel_rfl)).trans rfl
            exact does_move rfl e4 ⟨Same.refl _, rfl⟩
          refine allp_mild 0 rfl rfl rfl (fun a x W hout hin hP => ?_) ?_
          · have e18 := hin.is 0 18 (by kernel_rfl) (by decide) (by kernel_rfl) (by kernel_rfl) _ rfl
            have C := refpad_any t W HM.out
            clear hP
            clear hin hout
            intro K0 Q hK
            go_simp
            refine C.mono ?_
            rintro e W' ⟨rfl, hb⟩
            exact hK _ _ ⟨hb, rfl⟩
          refine allp_mild 0 rfl rfl rfl (fun a x W hout hin hP => ?_) ?_
          · have e1 : a.tmps[1]? = some (.pointer (some ⟨g1, 0, none⟩)) := (hout 1 (by kernel_rfl)).trans rfl
            clear hin hout
            intro K0 Q hK
            exact wp_st_load hP 0 0 23 (.tmp 1) rfl rfl (eval_of_get e1) (bs b) (slab_whole _) _ Tryd.underlying23 rfl (by rw [size_bs, HL.out]; exact size_b4) (hK _ _ ⟨Same.refl _, rfl⟩)
          refine allp_mild 0 rfl rfl rfl (fun a x W hout hin hP => ?_) ?_
          · have e19 := hin.is 1 19 (by kernel_rfl) (by decide) (by kernel_rfl) (by kernel_rfl) _ rfl
            have e20 := hin.is 2 20 (by kernel_rfl) (by decide) (by kernel_rfl) (by kernel_rfl) _ rfl
            have q := HQ.out W
            rw [HPD.out] at q
            clear hP
            clear hin hout
            intro K0 Q hK
            go_simp
            exact hK _ _ ⟨Same.refl _, rfl⟩
          refine allp_mild 0 rfl rfl rfl (fun a x W hout hin hP => ?_) ?_
          · have e21 := hin.is 3 21 (by kernel_rfl) (by decide) (by kernel_rfl) (by kernel_rfl) _ rfl
            exact does_move rfl e21 ⟨Same.refl _, rfl⟩
          refine allp_skip rfl rfl (fun _ => rfl) ?_
          refine allp_skip rfl rfl (fun _ => rfl) ?_
          refine allp_skip rfl rfl (fun _ => rfl) ?_
          refine allp_skip rfl rfl (fun _ => rfl) ?_
          refine allp_skip rfl rfl (fun _ => rfl) ?_
          refine allp_skip rfl rfl (fun _ => rfl) ?_
          refine allp_skip rfl rfl (fun _ => rfl) ?_
          refine allp_skip rfl rfl (fun _ => rfl) ?_
          refine allp_mild 0 rfl rfl rfl (fun a x W hout hin hP => ?_) ?_
          · have e22 := hin.is 4 22 (by kernel_rfl) (by decide) (by kernel_rfl) (by kernel_rfl) _ rfl
            have e30 := hin.is 12 30 (by kernel_rfl) (by decide) (by kernel_rfl) (by kernel_rfl) _ rfl
            exact does_pick rfl e22 ⟨Same.refl _, rfl⟩
          exact all_end (by decide)
        · intro x W hP hV
          have h31 : x 13 = .bool true := hV 13 (by decide) (.inl (by kernel_rfl))
          have HS : St w noF [⟨g1, 23, bs b⟩, ⟨g2, 29, nmC [] false⟩] W := hP
          clear hV hP
          simp only [putL, Act.put, List.setIfInBounds_toArray, List.set_cons_succ, List.set_cons_zero, h31]
          refine wpAnyH_done (by kernel_rfl) ?_ _
          clear h31
          go_wp2_with (first | ((with_reducible refine wpList_plain ?_ ?_); exact rfl; intro KK hKK; refine wp_st_store HS 1 0 29 (.tmp 2) (.tmp 32) rfl rfl rfl (.agg (nmC [] false)) rfl (size_nm) (Nat.le_of_eq rfl) (one_nm _ _) (nmC [] false) (spl_agg _ _ _ rfl rfl) (fun W11 HSx => hKK _ _ ?_); clear hKK KK HS; have HS : St w noF [⟨g1, 23, bs b⟩, ⟨g2, 29, nmC [] false⟩] W11 := HSx; clear HSx))
          exact bodyPost_ret (v := .agg (nmC [] false)) (results_cell_row Tryd.results10 _ _ g2 29 (nmC [] false) (0, 0) _ rfl (HS.row 1 rfl) Tryd.underlying29 rfl size_nm) rfl ⟨by rw [HE.out], HS.below⟩
      case pos =>
      have HPD := Lib.hid (decide_eq_true hp)
      clear hp
      by_cases h0 : k = 0
      · exact absurd h0 (by omega)
      · have hdk : decide ((0 : Int) < (k : Int)) = true := decide_eq_true (by omega)
        have hkk : 0 < k := by omega
        have ht0 : ¬ t = [] := fun h => h0 (by rw [← HTL.out, h]; rfl)
        cases hg : goodN t with
        | true =>
          have HG := Lib.hid hg
          have HE : Hid (cutR b = (t, true)) := Lib.hid (by rw [HR.out, HPD.out, hg, Bool.or_true]; rfl)
          clear HS ht0 hg
          refine wp_region_phs [is (.string (strB t)), is ((.agg (bs (padN t)))), is (.agg (bs b)), is (.bool false), is (.bool false), is (.int .i64 k), is (.bool true), is (.bool true), is (.string (strB t)), (fun v W => Strs W v [t]), is (.bool true), is (.bool false), is (.bool false), is (.bool false)] [true, true, true, true, true, true, true, true, true, false, true, true, true, true] [(fun W => St w noF [⟨g1, 23, bs b⟩, ⟨g2, 29, nmC [] false⟩] W)] [false, false, false, false, false, false, false, false, false, false, false, false, false, false] [some 0, some 0, some 0, some 0, some 0, some 0, some 0, some 0, some 0, some 0, some 0, some 0, some 0, some 0] [some 18, some 19, some 20, some 21, some 22, some 23, some 24, some 25, some 26, some 27, some 28, some 29, some 30, some 31] 14 0 (fun _ => true) rfl rfl (by kernel_rfl) (by kernel_rfl) (by kernel_rfl) (by kernel_rfl) ?_ ?_ ?_ ?_ ?_ ?_
          · repeat first | exact wok_nil | refine wok_cons (by first | exact fun _ _ h k => h.same k) ?_
          · repeat first | exact vok_nil | refine vok_rig (by first | exact fun _ _ _ h => h) ?_ | refine vok_soft (by first | exact fun _ _ _ h _ => h | exact fun _ _ _ h k => Strs.below h k (Nat.le_refl _)) ?_
          · exact hF0
          · repeat first | exact all_end (by decide) | refine all_cons (by first | exact rfl | exact ⟨rfl, fun _ _ h => Or.inl h⟩ | exact ⟨rfl, fun _ _ h => Or.inr ⟨h, rfl⟩⟩) ?_
          · refine allp_mild 0 rfl rfl rfl (fun a x W hout hin hP => ?_) ?_
            · have e4 : a.tmps[4]? = some (.string (strB t)) := (hout 4 (by kernel_rfl)).trans rfl
              exact does_move rfl e4 ⟨Same.refl _, rfl⟩
            refine allp_mild 0 rfl rfl rfl (fun a x W hout hin hP => ?_) ?_
            · have e18 := hin.is 0 18 (by kernel_rfl) (by decide) (by kernel_rfl) (by kernel_rfl) _ rfl
              have C := refpad_any t W HM.out
              clear hP
              clear hin hout
              intro K0 Q hK
              go_simp
              refine C.mono ?_
              rintro e W' ⟨rfl, hb⟩
              exact hK _ _ ⟨hb, rfl⟩
            refine allp_mild 0 rfl rfl rfl (fun a x W hout hin hP => ?_) ?_
            · have e1 : a.tmps[1]? = some (.pointer (some ⟨g1, 0, none⟩)) := (hout 1 (by kernel_rfl)).trans rfl
              clear hin hout
              intro K0 Q hK
              exact wp_st_load hP 0 0 23 (.tmp 1) rfl rfl (eval_of_get e1) (bs b) (slab_whole _) _ Tryd.underlying23 rfl (by rw [size_bs, HL.out]; exact size_b4) (hK _ _ ⟨Same.refl _, rfl⟩)
            refine allp_mild 0 rfl rfl rfl (fun a x W hout hin hP => ?_) ?_
            · have e19 := hin.is 1 19 (by kernel_rfl) (by decide) (by kernel_rfl) (by kernel_rfl) _ rfl
              have e20 := hin.is 2 20 (by kernel_rfl) (by decide) (by kernel_rfl) (by kernel_rfl) _ rfl
              have q := HQ.out W
              rw [HPD.out] at q
              clear hP
              clear hin hout
              intro K0 Q hK
              go_simp
              exact hK _ _ ⟨Same.refl _, rfl⟩
            refine allp_mild 0 rfl rfl rfl (fun a x W hout hin hP => ?_) ?_
            · have e21 := hin.is 3 21 (by kernel_rfl) (by decide) (by kernel_rfl) (by kernel_rfl) _ rfl
              exact does_move rfl e21 ⟨Same.refl _, rfl⟩
            refine allp_mild 0 rfl rfl rfl (fun a x W hout hin hP => ?_) ?_
            · have e3 : a.tmps[3]? = some (.int .i64 k) := (hout 3 (by kernel_rfl)).trans rfl
              exact does_move rfl e3 ⟨Same.refl _, rfl⟩
            refine allp_mild 0 rfl rfl rfl (fun a x W hout hin hP => ?_) ?_
            · have e23 := hin.is 5 23 (by kernel_rfl) (by decide) (by kernel_rfl) (by kernel_rfl) _ rfl
              clear hin hout
              intro K Q hK
              go_simp
              exact hK _ _ ⟨Same.refl _, rfl⟩
            refine allp_mild 0 rfl rfl rfl (fun a x W hout hin hP => ?_) ?_
            · have e24 := hin.is 6 24 (by kernel_rfl) (by decide) (by kernel_rfl) (by kernel_rfl) _ rfl
              exact does_move rfl e24 ⟨Same.refl _, rfl⟩
            refine allp_mild 0 rfl rfl rfl (fun a x W hout hin hP => ?_) ?_
            · have e4 : a.tmps[4]? = some (.string (strB t)) := (hout 4 (by kernel_rfl)).trans rfl
              exact does_move rfl e4 ⟨Same.refl _, rfl⟩
            refine allp_mild 0 rfl rfl rfl (fun a x W hout hin hP => ?_) ?_
            · have e26 := hin.is 8 26 (by kernel_rfl) (by decide) (by kernel_rfl) (by kernel_rfl) _ rfl
              clear hP
              clear hin hout
              intro K0 Q hK
              go_simp
              exact hK _ _ ⟨Same.alloc _ _, strs1 W t HM.out 9⟩
            refine allp_mild 0 rfl rfl rfl (fun a x W hout hin hP => ?_) ?_
            · obtain ⟨v27, e27, hv27⟩ := hin.get 9 27 (by kernel_rfl) (by decide) (by kernel_rfl) (.inr ⟨rfl, by kernel_rfl⟩)
              have C := (show goodNs [t] = true by unfold goodNs; simp [HG.out]) ▸ refgoodn_any [t] _ W hv27 (by unfold maxLen; simp)
              clear hP
              clear hin hout
              intro K0 Q hK
              go_simp
              refine C.mono ?_
              rintro e W' ⟨rfl, rfl⟩
              exact hK _ _ ⟨Same.refl _, rfl⟩
            refine allp_mild 0 rfl rfl rfl (fun a x W hout hin hP => ?_) ?_
            · have e28 := hin.is 10 28 (by kernel_rfl) (by decide) (by kernel_rfl) (by kernel_rfl) _ rfl
              exact does_not rfl e28 ⟨Same.refl _, rfl⟩
            refine allp_mild 0 rfl rfl rfl (fun a x W hout hin hP => ?_) ?_
            · have e25 := hin.is 7 25 (by kernel_rfl) (by decide) (by kernel_rfl) (by kernel_rfl) _ rfl
              have e29 := hin.is 11 29 (by kernel_rfl) (by decide) (by kernel_rfl) (by kernel_rfl) _ rfl
              exact does_pick rfl e25 ⟨Same.refl _, eval_of_get e29⟩
            refine allp_mild 0 rfl rfl rfl (fun a x W hout hin hP => ?_) ?_
            · have e22 := hin.is 4 22 (by kernel_rfl) (by decide) (by kernel_rfl) (by kernel_rfl) _ rfl
              have e30 := hin.is 12 30 (by kernel_rfl) (by decide) (by kernel_rfl) (by kernel_rfl) _ rfl
              exact does_pick rfl e22 ⟨Same.refl _, eval_of_get e30⟩
            exact all_end (by decide)
          · intro x W hP hV
            have h31 : x 13 = .bool false := hV 13 (by decide) (.inl (by kernel_rfl))
            have HS : St w noF [⟨g1, 23, bs b⟩, ⟨g2, 29, nmC [] false⟩] W := hP
            clear hV hP
            simp only [putL, Act.put, List.setIfInBounds_toArray, List.set_cons_succ, List.set_cons_zero, h31]
            refine wpAnyH_done (by kernel_rfl) ?_ _
            clear h31
            go_wp2_with (first | ((with_reducible refine wpList_plain ?_ ?_); exact rfl; intro KK hKK; refine wp_st_store HS 1 0 29 (.tmp 2) (.tmp 34) rfl rfl rfl (.agg (nmC t true)) rfl (size_nm) (Nat.le_of_eq rfl) (one_nm _ _) (nmC t true) (spl_agg _ _ _ rfl rfl) (fun W11 HSx => hKK _ _ ?_); clear hKK KK HS; have HS : St w noF [⟨g1, 23, bs b⟩, ⟨g2, 29, nmC t true⟩] W11 := HSx; clear HSx))
            exact bodyPost_ret (v := .agg (nmC t true)) (results_cell_row Tryd.results10 _ _ g2 29 (nmC t true) (0, 0) _ rfl (HS.row 1 rfl) Tryd.underlying29 rfl size_nm) rfl ⟨by rw [HE.out], HS.below⟩
        | false =>
          have HG := Lib.hid hg
          have HE : Hid (cutR b = ([], false)) := Lib.hid (by rw [HR.out, HPD.out, hg, decide_eq_false ht0]; rfl)
          clear HS ht0 hg
          refine wp_region_phs [is (.string (strB t)), is ((.agg (bs (padN t)))), is (.agg (bs b)), is (.bool false), is (.bool false), is (.int .i64 k), is (.bool true), is (.bool true), is (.string (strB t)), (fun v W => Strs W v [t]), is (.bool false), is (.bool true), is (.bool true), is (.bool true)] [true, true, true, true, true, true, true, true, true, false, true, true, true, true] [(fun W => St w noF [⟨g1, 23, bs b⟩, ⟨g2, 29, nmC [] false⟩] W)] [false, false, false, false, false, false, false, false, false, false, false, false, false, false] [some 0, some 0, some 0, some 0, some 0, some 0, some 0, some 0, some 0, some 0, some 0, some 0, some 0, some 0] [some 18, some 19, some 20, some 21, some 22, some 23, some 24, some 25, some 26, some 27, some 28, some 29, some 30, some 31] 14 0 (fun _ => true) rfl rfl (by kernel_rfl) (by kernel_rfl) (by kernel_rfl) (by kernel_rfl) ?_ ?_ ?_ ?_ ?_ ?_
          · repeat first | exact wok_nil | refine wok_cons (by first | exact fun _ _ h k => h.same k) ?_
          · repeat first | exact vok_nil | refine vok_rig (by first | exact fun _ _ _ h => h) ?_ | refine vok_soft (by first | exact fun _ _ _ h _ => h | exact fun _ _ _ h k => Strs.below h k (Nat.le_refl _)) ?_
          · exact hF0
          · repeat first | exact all_end (by decide) | refine all_cons (by first | exact rfl | exact ⟨rfl, fun _ _ h => Or.inl h⟩ | exact ⟨rfl, fun _ _ h => Or.inr ⟨h, rfl⟩⟩) ?_
          · refine allp_mild 0 rfl rfl rfl (fun a x W hout hin hP => ?_) ?_
            · have e4 : a.tmps[4]? = some (.string (strB t)) := (hout 4 (by kernel_rfl)).trans rfl
              exact does_move rfl e4 ⟨Same.refl _, rfl⟩
            refine allp_mild 0 rfl rfl rfl (fun a x W hout hin hP => ?_) ?_
            · have e18 := hin.is 0 18 (by kernel_rfl) (by decide) (by kernel_rfl) (by kernel_rfl) _ rfl
              have C := refpad_any t W HM.out
              clear hP
              clear hin hout
              intro K0 Q hK
              go_simp
              refine C.mono ?_
              rintro e W' ⟨rfl, hb⟩
              exact hK _ _ ⟨hb, rfl⟩
            refine allp_mild 0 rfl rfl rfl (fun a x W hout hin hP => ?_) ?_
            · have e1 : a.tmps[1]? = some (.pointer (some ⟨g1, 0, none⟩)) := (hout 1 (by kernel_rfl)).trans rfl
              clear hin hout
              intro K0 Q hK
              exact wp_st_load hP 0 0 23 (.tmp 1) rfl rfl (eval_of_get e1) (bs b) (slab_whole _) _ Tryd.underlying23 rfl (by rw [size_bs, HL.out]; exact size_b4) (hK _ _ ⟨Same.refl _, rfl⟩)
            refine allp_mild 0 rfl rfl rfl (fun a x W hout hin hP => ?_) ?_
            · have e19 := hin.is 1 19 (by kernel_rfl) (by decide) (by kernel_rfl) (by kernel_rfl) _ rfl
              have e20 := hin.is 2 20 (by kernel_rfl) (by decide) (by kernel_rfl) (by kernel_rfl) _ rfl
              have q := HQ.out W
              rw [HPD.out] at q
              clear hP
              clear hin hout
              intro K0 Q hK
              go_simp
              exact hK _ _ ⟨Same.refl _, rfl⟩
            refine allp_mild 0 rfl rfl rfl (fun a x W hout hin hP => ?_) ?_
            · have e21 := hin.is 3 21 (by kernel_rfl) (by decide) (by kernel_rfl) (by kernel_rfl) _ rfl
              exact does_move rfl e21 ⟨Same.refl _, rfl⟩
            refine allp_mild 0 rfl rfl rfl (fun a x W hout hin hP => ?_) ?_
            · have e3 : a.tmps[3]? = some (.int .i64 k) := (hout 3 (by kernel_rfl)).trans rfl
              exact does_move rfl e3 ⟨Same.refl _, rfl⟩
            refine allp_mild 0 rfl rfl rfl (fun a x W hout hin hP => ?_) ?_
            · have e23 := hin.is 5 23 (by kernel_rfl) (by decide) (by kernel_rfl) (by kernel_rfl) _ rfl
              clear hin hout
              intro K Q hK
              go_simp
              exact hK _ _ ⟨Same.refl _, rfl⟩
            refine allp_mild 0 rfl rfl rfl (fun a x W hout hin hP => ?_) ?_
            · have e24 := hin.is 6 24 (by kernel_rfl) (by decide) (by kernel_rfl) (by kernel_rfl) _ rfl
              exact does_move rfl e24 ⟨Same.refl _, rfl⟩
            refine allp_mild 0 rfl rfl rfl (fun a x W hout hin hP => ?_) ?_
            · have e4 : a.tmps[4]? = some (.string (strB t)) := (hout 4 (by kernel_rfl)).trans rfl
              exact does_move rfl e4 ⟨Same.refl _, rfl⟩
            refine allp_mild 0 rfl rfl rfl (fun a x W hout hin hP => ?_) ?_
            · have e26 := hin.is 8 26 (by kernel_rfl) (by decide) (by kernel_rfl) (by kernel_rfl) _ rfl
              clear hP
              clear hin hout
              intro K0 Q hK
              go_simp
              exact hK _ _ ⟨Same.alloc _ _, strs1 W t HM.out 9⟩
            refine allp_mild 0 rfl rfl rfl (fun a x W hout hin hP => ?_) ?_
            · obtain ⟨v27, e27, hv27⟩ := hin.get 9 27 (by kernel_rfl) (by decide) (by kernel_rfl) (.inr ⟨rfl, by kernel_rfl⟩)
              have C := (show goodNs [t] = false by unfold goodNs; simp [HG.out]) ▸ refgoodn_any [t] _ W hv27 (by unfold maxLen; simp)
              clear hP
              clear hin hout
              intro K0 Q hK
              go_simp
              refine C.mono ?_
              rintro e W' ⟨rfl, rfl⟩
              exact hK _ _ ⟨Same.refl _, rfl⟩
            refine allp_mild 0 rfl rfl rfl (fun a x W hout hin hP => ?_) ?_
            · have e28 := hin.is 10 28 (by kernel_rfl) (by decide) (by kernel_rfl) (by kernel_rfl) _ rfl
              exact does_not rfl e28 ⟨Same.refl _, rfl⟩
            refine allp_mild 0 rfl rfl rfl (fun a x W hout hin hP => ?_) ?_
            · have e25 := hin.is 7 25 (by kernel_rfl) (by decide) (by kernel_rfl) (by kernel_rfl) _ rfl
              have e29 := hin.is 11 29 (by kernel_rfl) (by decide) (by kernel_rfl) (by kernel_rfl) _ rfl
              exact does_pick rfl e25 ⟨Same.refl _, eval_of_get e29⟩
            refine allp_mild 0 rfl rfl rfl (fun a x W hout hin hP => ?_) ?_
            · have e22 := hin.is 4 22 (by kernel_rfl) (by decide) (by kernel_rfl) (by kernel_rfl) _ rfl
              have e30 := hin.is 12 30 (by kernel_rfl) (by decide) (by kernel_rfl) (by kernel_rfl) _ rfl
              exact does_pick rfl e22 ⟨Same.refl _, eval_of_get e30⟩
            exact all_end (by decide)
          · intro x W hP hV
            have h31 : x 13 = .bool true := hV 13 (by decide) (.inl (by kernel_rfl))
            have HS : St w noF [⟨g1, 23, bs b⟩, ⟨g2, 29, nmC [] false⟩] W := hP
            clear hV hP
            simp only [putL, Act.put, List.setIfInBounds_toArray, List.set_cons_succ, List.set_cons_zero, h31]
            refine wpAnyH_done (by kernel_rfl) ?_ _
            clear h31
            go_wp2_with (first | ((with_reducible refine wpList_plain ?_ ?_); exact rfl; intro KK hKK; refine wp_st_store HS 1 0 29 (.tmp 2) (.tmp 32) rfl rfl rfl (.agg (nmC [] false)) rfl (size_nm) (Nat.le_of_eq rfl) (one_nm _ _) (nmC [] false) (spl_agg _ _ _ rfl rfl) (fun W11 HSx => hKK _ _ ?_); clear hKK KK HS; have HS : St w noF [⟨g1, 23, bs b⟩, ⟨g2, 29, nmC [] false⟩] W11 := HSx; clear HSx))
            exact bodyPost_ret (v := .agg (nmC [] false)) (results_cell_row Tryd.results10 _ _ g2 29 (nmC [] false) (0, 0) _ rfl (HS.row 1 rfl) Tryd.underlying29 rfl size_nm) rfl ⟨by rw [HE.out], HS.below⟩
end Go.Proofs.YtnepjcpbahhngaaDoor
