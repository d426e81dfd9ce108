/- The statement NamesPads: its walk. -/
import Derived.Test.YtnepjcpbahhngaaDoorNamesWakes
set_option maxRecDepth 4000
namespace Go.Proofs.YtnepjcpbahhngaaDoor
open Go Go.RowKit
attribute [local go_sem] strB_size
def pstep (z : Bool × Bool × Nat) (x : BitVec 8) : Bool × Bool × Nat := if x = 0#8 then (z.1, true, z.2.2) else (z.1 && !z.2.1 && decide (97 ≤ bd x) && decide (bd x ≤ 122), z.2.1, z.2.2 + 1)
def pst (l : List (BitVec 8)) : Bool × Bool × Nat := l.foldl pstep (true, false, 0)
theorem pst_take (b : List (BitVec 8)) (k : Nat) (h : k < b.length) : pst (b.take (k + 1)) = pstep (pst (b.take k)) (b.getD k 0#8) := by
  unfold pst
  rw [List.take_succ_eq_append_getElem h, List.foldl_append, List.getD_eq_getElem?_getD, List.getElem?_eq_getElem h]; rfl
theorem pst_le (b : List (BitVec 8)) (k : Nat) : (pst (b.take k)).2.2 ≤ k := by
  induction k with
  | zero => simp [pst]
  | succ k ih =>
    by_cases h : k < b.length
    · rw [pst_take b k h]; unfold pstep; split <;> simp <;> omega
    · rw [List.take_of_length_le (by omega)] at ih ⊢; omega
theorem pst_cut {b : List (BitVec 8)} (h : b.length = 4) : (cutN b).2 = (pst b).1 ∧ ((pst b).1 = true → (cutN b).1.length = (pst b).2.2) := by
  obtain ⟨x, y, z, t, rfl⟩ := list4 h
  have hz : letter 0#8 = false := by decide
  unfold cutN okTrim
  have hp : pstep = fun (z : Bool × Bool × Nat) (x : BitVec 8) => if x = 0#8 then (z.1, true, z.2.2) else (z.1 && !z.2.1 && letter x, z.2.1, z.2.2 + 1) := by
    funext z x; unfold pstep letter; rw [Bool.and_assoc (z.1 && !z.2.1)]
  unfold pst
  rw [hp]
  by_cases hx : x = 0#8 <;> by_cases hy : y = 0#8 <;> by_cases hw : z = 0#8 <;> by_cases ht : t = 0#8 <;> simp [trimN, goodN, hx, hy, hw, ht, hz, List.dropWhile] <;> grind
set_option maxRecDepth 20000 in
set_option maxHeartbeats 3200000 in
theorem npads_walk (b : List (BitVec 8)) (w : World) (hl : b.length = 4) :
    Calls Tryd.prog 6 #[.agg (bs b)] w fun e w' => e = .returned (.bool true) ∧ Below w.heap.size w w' := by
  have HL := Lib.hid hl
  have HPC := Lib.hid (pst_cut hl)
  have HCK := Lib.hid (cut_ok hl)
  have HCN := Lib.hid (@cut_no b)
  have HCL := Lib.hid (cut_len hl)
  clear hl
  have HS := St.nil w noF
  go_enter Tryd.func6, Tryd.ntmps6
  go_upto_region 3 with (first | ((with_reducible refine wpList_plain ?_ ?_); exact rfl; intro KK hKK; refine wp_st_box HS 23 (.tmp 0) rfl _ rfl (bs b) (rfl) (fun g1 W1 HSx => hKK _ _ ?_); clear hKK KK HS; have HS : St w noF [⟨g1, 23, bs b⟩] W1 := HSx; clear HSx))
  go_loopw [3, 4, 5, 6] (fun r e n i wr => ∃ k : Nat, k ≤ 4 ∧ i = .int .i64 k ∧ r = .bool (pst (b.take k)).1 ∧ e = .bool (pst (b.take k)).2.1 ∧ n = .int .i64 ((pst (b.take k)).2.2 : Nat) ∧ St w noF [⟨g1, 23, bs b⟩] wr) (fun _ _ _ i _ => 4 - (intOf i).toNat)
  case atStart => exact ⟨0, by omega, rfl, rfl, rfl, rfl, HS⟩
  case round =>
    clear HS
    obtain ⟨k, hk4, rfl, rfl, rfl, rfl, HS⟩ := hrel
    have HNK := Lib.hid (pst_le b k)
    by_cases h4 : k < 4
    · have hd4 : decide ((k : Int) < 4) = true := decide_eq_true (by omega)
      have hk0 : (0 : Int) ≤ (k : Int) := by omega
      have hk1 : (k : Int) < 4 := by omega
      have HST := Lib.hid (pst_take b k (by rw [HL.out]; exact h4))
      obtain ⟨x, hx⟩ : ∃ x, b.getD k 0#8 = x := ⟨_, rfl⟩
      have hc : wr.cell? ⟨g1, k, none⟩ = some (.int .u8 (bd x)) := (HS.row 0 rfl).get ((get_bs b k (by rw [HL.out]; exact h4)).trans (congrArg (fun y => some (Value.int .u8 (bd y))) hx))
      rw [hx] at HST
      clear hx
      obtain ⟨⟨r, e, n⟩, hz⟩ : ∃ z, pst (b.take k) = z := ⟨_, rfl⟩
      rw [hz] at HST HNK ⊢
      clear hz
      have HNK2 : Hid (n ≤ k) := HNK
      have hw : IntKind.i64.wrap ((k : Int) + 1) = ((k + 1 : Nat) : Int) := by rw [i64_id _ (by omega) (by omega)]; omega
      have hwn : IntKind.i64.wrap ((n : Int) + 1) = ((n + 1 : Nat) : Int) := by have := HNK2.out; rw [i64_id _ (by omega) (by omega)]; omega
      clear HNK
      simp only
      by_cases h0 : x = 0#8
      · have hb1 : (bd x == 0) = true := by rw [h0]; rfl
        have HE : Hid (pst (b.take (k + 1)) = (r, true, n)) := Lib.hid (by rw [HST.out]; unfold pstep; rw [if_pos h0])
        clear h0
        go_wp2_with fail
        exact ⟨⟨k + 1, by omega, by go_num, by rw [HE.out], by rw [HE.out], by rw [HE.out], HS⟩, by simp [intOf]; omega⟩
      · have hb1 : (bd x == 0) = false := beq_eq_false_iff_ne.2 fun e => h0 (bd_inj (by rw [e]; rfl))
        have HE : Hid (pst (b.take (k + 1)) = (r && !e && decide (97 ≤ bd x) && decide (bd x ≤ 122), e, n + 1)) := Lib.hid (by rw [HST.out]; unfold pstep; rw [if_neg h0])
        clear h0 HST
        cases r with
        | false =>
          go_wp2_with fail
          exact ⟨⟨k + 1, by omega, by go_num, by rw [HE.out]; rfl, by rw [HE.out], by rw [HE.out]; simp, HS⟩, by simp [intOf]; omega⟩
        | true =>
          cases e with
          | true =>
            go_wp2_with fail
            exact ⟨⟨k + 1, by omega, by go_num, by rw [HE.out]; rfl, by rw [HE.out], by rw [HE.out]; simp, HS⟩, by simp [intOf]; omega⟩
          | false =>
            cases h97 : decide (97 ≤ bd x) with
            | false =>
              rw [h97] at HE
              go_wp2_with fail
              exact ⟨⟨k + 1, by omega, by go_num, by rw [HE.out]; rfl, by rw [HE.out], by rw [HE.out]; simp, HS⟩, by simp [intOf]; omega⟩
            | true =>
              rw [h97] at HE
              cases h122 : decide (bd x ≤ 122) with
              | false =>
                rw [h122] at HE
                go_wp2_with fail
                exact ⟨⟨k + 1, by omega, by go_num, by rw [HE.out]; rfl, by rw [HE.out], by rw [HE.out]; simp, HS⟩, by simp [intOf]; omega⟩
              | true =>
                rw [h122] at HE
                go_wp2_with fail
                exact ⟨⟨k + 1, by omega, by go_num, by rw [HE.out]; rfl, by rw [HE.out], by rw [HE.out]; simp, HS⟩, by simp [intOf]; omega⟩
    · obtain rfl : k = 4 := by omega
      have hb4 : b.take 4 = b := List.take_of_length_le (by rw [HL.out]; exact Nat.le_refl _)
      rw [hb4]
      have HC := Lib.hid (cut_any b wr HL.out)
      obtain ⟨⟨r, e, n⟩, hz⟩ : ∃ z, pst b = z := ⟨_, rfl⟩
      obtain ⟨⟨t, ok⟩, hcz⟩ : ∃ z, cutN b = z := ⟨_, rfl⟩
      rw [hz, hcz] at HPC
      rw [hcz] at HC HCK HCN HCL
      rw [hz]
      clear hz hcz hb4
      obtain ⟨e1, HLN⟩ : ok = r ∧ Hid (r = true → t.length = n) := ⟨HPC.out.1, Lib.hid HPC.out.2⟩
      subst e1
      simp only
      have hdl : decide ((4 : Int) < 4) = false := rfl
      go_wp2_with (first | ((with_reducible refine wpList_plain ?_ ?_); exact rfl; intro KK hKK; refine wp_st_load HS 0 0 23 (.tmp 1) rfl rfl rfl (bs b) (slab_whole _) _ Tryd.underlying23 rfl (by rw [size_bs, HL.out]; exact size_b4) (hKK _ _ ?_); clear hKK KK))
      refine HC.out.mono ?_
      rintro e2 w2 ⟨rfl, hb2⟩
      have HS2 : St w noF [⟨g1, 23, bs b⟩] w2 := HS.same hb2
      clear HS hb2 HC
      have HS := HS2
      clear HS2
      cases ok with
      | true =>
        have HPB : Hid (padN t = b) := Lib.hid (HCK.out rfl).1
        have hln : t.length = n := HLN.out rfl
        clear HLN HCK HCN
        go_upto_region 12 with fail
        have hF0 : Wl [fun W => St w noF [⟨g1, 23, bs b⟩] W] 0 w2.drew := HS.drew
        clear HS hln
        refine wp_region_phs [is (.bool true), is (.bool false), is (.bool false), is (.string (strB t)), is (.agg (bs (padN t))), is (.agg (bs b)), is (.bool true), is (.bool true), is (.bool true), is (.bool true), is (.bool true), is (.bool true)] [true, true, true, true, true, true, true, true, true, true, true, true] [(fun W => St w noF [⟨g1, 23, bs b⟩] W)] [false, false, false, false, false, false, false, false, false, false, false, false] [some 0, some 0, some 0, some 0, some 0, some 0, some 0, some 0, some 0, some 0, some 0, some 0] [some 61, some 62, some 63, some 64, some 65, some 66, some 67, some 68, some 69, some 70, some 71, some 2] 12 0 (fun _ => true) rfl rfl (by kernel_rfl) (by kernel_rfl) (by kernel_rfl) (by kernel_rfl) ?_ ?_ ?_ ?_ ?_ ?_
        · repeat first | exact wok_nil | refine wok_cons (by first | exact fun _ _ h k => h.same k) ?_
        · repeat first | exact vok_nil | refine vok_rig (by first | exact fun _ _ _ h => h) ?_ | refine vok_soft (by first | exact fun _ _ _ h _ => h) ?_
        · exact hF0
        · repeat first | exact all_end (by decide) | refine all_cons (by first | exact rfl | exact ⟨rfl, fun _ _ h => Or.inl h⟩ | exact ⟨rfl, fun _ _ h => Or.inr ⟨h, rfl⟩⟩) ?_
        · refine allp_mild 0 rfl rfl rfl (fun a x W hout hin hP => ?_) ?_
          · have e8 : a.tmps[8]? = some (.bool true) := (hout 8 (by kernel_rfl)).trans rfl
            exact does_move rfl e8 ⟨Same.refl _, rfl⟩
          refine allp_mild 0 rfl rfl rfl (fun a x W hout hin hP => ?_) ?_
          · have e61 := hin.is 0 61 (by kernel_rfl) (by decide) (by kernel_rfl) (by kernel_rfl) _ rfl
            clear hin hout
            intro K Q hK
            go_simp
            exact hK _ _ ⟨Same.refl _, rfl⟩
          refine allp_mild 0 rfl rfl rfl (fun a x W hout hin hP => ?_) ?_
          · have e62 := hin.is 1 62 (by kernel_rfl) (by decide) (by kernel_rfl) (by kernel_rfl) _ rfl
            exact does_move rfl e62 ⟨Same.refl _, rfl⟩
          refine allp_mild 0 rfl rfl rfl (fun a x W hout hin hP => ?_) ?_
          · have e7 : a.tmps[7]? = some (.string (strB t)) := (hout 7 (by kernel_rfl)).trans rfl
            exact does_move rfl e7 ⟨Same.refl _, rfl⟩
          refine allp_mild 0 rfl rfl rfl (fun a x W hout hin hP => ?_) ?_
          · have e64 := hin.is 3 64 (by kernel_rfl) (by decide) (by kernel_rfl) (by kernel_rfl) _ rfl
            have C := pad_any t W
            clear hP
            clear hin hout
            intro K0 Q hK
            go_simp
            refine C.mono ?_
            rintro e W' ⟨rfl, hb⟩
            exact hK _ _ ⟨hb, rfl⟩
          refine allp_mild 0 rfl rfl rfl (fun a x W hout hin hP => ?_) ?_
          · have e1 : a.tmps[1]? = some (.pointer (some ⟨g1, 0, none⟩)) := (hout 1 (by kernel_rfl)).trans rfl
            clear hin hout
            intro K0 Q hK
            exact wp_st_load hP 0 0 23 (.tmp 1) rfl rfl (eval_of_get e1) (bs b) (slab_whole _) _ Tryd.underlying23 rfl (by rw [size_bs, HL.out]; exact size_b4) (hK _ _ ⟨Same.refl _, rfl⟩)
          refine allp_mild 0 rfl rfl rfl (fun a x W hout hin hP => ?_) ?_
          · have e65 := hin.is 4 65 (by kernel_rfl) (by decide) (by kernel_rfl) (by kernel_rfl) _ rfl
            have e66 := hin.is 5 66 (by kernel_rfl) (by decide) (by kernel_rfl) (by kernel_rfl) _ rfl
            have q := neq_b4 (padN t) b (length_padN t) HL.out W
            rw [decide_eq_true HPB.out] at q
            clear hP
            clear hin hout
            intro K0 Q hK
            go_simp
            exact hK _ _ ⟨Same.refl _, rfl⟩
          refine allp_mild 0 rfl rfl rfl (fun a x W hout hin hP => ?_) ?_
          · have e63 := hin.is 2 63 (by kernel_rfl) (by decide) (by kernel_rfl) (by kernel_rfl) _ rfl
            have e67 := hin.is 6 67 (by kernel_rfl) (by decide) (by kernel_rfl) (by kernel_rfl) _ rfl
            exact does_pick rfl e63 ⟨Same.refl _, eval_of_get e67⟩
          refine allp_mild 0 rfl rfl rfl (fun a x W hout hin hP => ?_) ?_
          · have e68 := hin.is 7 68 (by kernel_rfl) (by decide) (by kernel_rfl) (by kernel_rfl) _ rfl
            exact does_move rfl e68 ⟨Same.refl _, rfl⟩
          refine allp_mild 0 rfl rfl rfl (fun a x W hout hin hP => ?_) ?_
          · have C := nwakes_any W
            clear hP
            clear hin hout
            intro K0 Q hK
            go_simp
            refine C.mono ?_
            rintro e W' ⟨rfl, hb⟩
            exact hK _ _ ⟨hb, rfl⟩
          refine allp_mild 0 rfl rfl rfl (fun a x W hout hin hP => ?_) ?_
          · have e69 := hin.is 8 69 (by kernel_rfl) (by decide) (by kernel_rfl) (by kernel_rfl) _ rfl
            have e70 := hin.is 9 70 (by kernel_rfl) (by decide) (by kernel_rfl) (by kernel_rfl) _ rfl
            exact does_pick rfl e69 ⟨Same.refl _, eval_of_get e70⟩
          refine allp_mild 0 rfl rfl rfl (fun a x W hout hin hP => ?_) ?_
          · have e71 := hin.is 10 71 (by kernel_rfl) (by decide) (by kernel_rfl) (by kernel_rfl) _ rfl
            exact does_assign rfl e71 ⟨Same.refl _, rfl⟩
          exact all_end (by decide)
        · intro x W hP hV
          have h : x 11 = .bool true := hV 11 (by decide) (.inl (by kernel_rfl))
          have HB := Lib.hid (St.below hP)
          clear hV hP
          simp only [putL, Act.put, List.setIfInBounds_toArray, List.set_cons_succ, List.set_cons_zero, h]
          refine wpAnyH_done (by kernel_rfl) ?_ _
          clear h
          go_wp2_with fail
          go_ret
          exact ⟨rfl, HB.out⟩
      | false =>
        have ht0 : t = [] := HCN.out rfl
        have h0 : (strB t).toList.isEmpty = true := by rw [str_emp, decide_eq_true ht0]
        have hn1 : (strB t).toList = [] := (str_nil t).2 ht0
        clear HLN HCK HCN ht0
        go_upto_region 12 with fail
        have hF0 : Wl [fun W => St w noF [⟨g1, 23, bs b⟩] W] 0 w2.drew := HS.drew
        clear HS h0 hn1
        refine wp_region_phs [is (.bool false), is (.bool true), is (.bool true), is undef, is undef, is undef, is undef, is (.bool true), is (.bool true), is (.bool true), is (.bool true), is (.bool true)] [true, true, true, true, true, true, true, true, true, true, true, true] [(fun W => St w noF [⟨g1, 23, bs b⟩] W)] [false, false, false, false, false, false, false, false, false, false, false, false] [some 0, some 0, some 0, some 0, some 0, some 0, some 0, some 0, some 0, some 0, some 0, some 0] [some 61, some 62, some 63, some 64, some 65, some 66, some 67, some 68, some 69, some 70, some 71, some 2] 12 0 (fun i => !([3, 4, 5, 6] : List Nat).contains i) rfl rfl (by kernel_rfl) (by kernel_rfl) (by kernel_rfl) (by kernel_rfl) ?_ ?_ ?_ ?_ ?_ ?_
        · repeat first | exact wok_nil | refine wok_cons (by first | exact fun _ _ h k => h.same k) ?_
        · repeat first | exact vok_nil | refine vok_rig (by first | exact fun _ _ _ h => h) ?_ | refine vok_soft (by first | exact fun _ _ _ h _ => h) ?_
        · exact hF0
        · repeat first | exact all_end (by decide) | refine all_cons (by first | exact rfl | exact ⟨rfl, fun _ _ h => Or.inl h⟩ | exact ⟨rfl, fun _ _ h => Or.inr ⟨h, rfl⟩⟩) ?_
        · refine allp_mild 0 rfl rfl rfl (fun a x W hout hin hP => ?_) ?_
          · have e8 : a.tmps[8]? = some (.bool false) := (hout 8 (by kernel_rfl)).trans rfl
            exact does_move rfl e8 ⟨Same.refl _, rfl⟩
          refine allp_mild 0 rfl rfl rfl (fun a x W hout hin hP => ?_) ?_
          · have e61 := hin.is 0 61 (by kernel_rfl) (by decide) (by kernel_rfl) (by kernel_rfl) _ rfl
            clear hin hout
            intro K Q hK
            go_simp
            exact hK _ _ ⟨Same.refl _, rfl⟩
          refine allp_mild 0 rfl rfl rfl (fun a x W hout hin hP => ?_) ?_
          · have e62 := hin.is 1 62 (by kernel_rfl) (by decide) (by kernel_rfl) (by kernel_rfl) _ rfl
            exact does_move rfl e62 ⟨Same.refl _, rfl⟩
          refine allp_skip rfl rfl (fun _ => rfl) ?_
          refine allp_skip rfl rfl (fun _ => rfl) ?_
          refine allp_skip rfl rfl (fun _ => rfl) ?_
          refine allp_skip rfl rfl (fun _ => rfl) ?_
          refine allp_mild 0 rfl rfl rfl (fun a x W hout hin hP => ?_) ?_
          · have e63 := hin.is 2 63 (by kernel_rfl) (by decide) (by kernel_rfl) (by kernel_rfl) _ rfl
            have e67 := hin.is 6 67 (by kernel_rfl) (by decide) (by kernel_rfl) (by kernel_rfl) _ rfl
            exact does_pick rfl e63 ⟨Same.refl _, rfl⟩
          refine allp_mild 0 rfl rfl rfl (fun a x W hout hin hP => ?_) ?_
          · have e68 := hin.is 7 68 (by kernel_rfl) (by decide) (by kernel_rfl) (by kernel_rfl) _ rfl
            exact does_move rfl e68 ⟨Same.refl _, rfl⟩
          refine allp_mild 0 rfl rfl rfl (fun a x W hout hin hP => ?_) ?_
          · have C := nwakes_any W
            clear hP
            clear hin hout
            intro K0 Q hK
            go_simp
            refine C.mono ?_
            rintro e W' ⟨rfl, hb⟩
            exact hK _ _ ⟨hb, rfl⟩
          refine allp_mild 0 rfl rfl rfl (fun a x W hout hin hP => ?_) ?_
          · have e69 := hin.is 8 69 (by kernel_rfl) (by decide) (by kernel_rfl) (by kernel_rfl) _ rfl
            have e70 := hin.is 9 70 (by kernel_rfl) (by decide) (by kernel_rfl) (by kernel_rfl) _ rfl
            exact does_pick rfl e69 ⟨Same.refl _, eval_of_get e70⟩
          refine allp_mild 0 rfl rfl rfl (fun a x W hout hin hP => ?_) ?_
          · have e71 := hin.is 10 71 (by kernel_rfl) (by decide) (by kernel_rfl) (by kernel_rfl) _ rfl
            exact does_assign rfl e71 ⟨Same.refl _, rfl⟩
          exact all_end (by decide)
        · intro x W hP hV
          have h : x 11 = .bool true := hV 11 (by decide) (.inl (by kernel_rfl))
          have HB := Lib.hid (St.below hP)
          clear hV hP
          simp only [putL, Act.put, List.setIfInBounds_toArray, List.set_cons_succ, List.set_cons_zero, h]
          refine wpAnyH_done (by kernel_rfl) ?_ _
          clear h
          go_wp2_with fail
          go_ret
          exact ⟨rfl, HB.out⟩
end Go.Proofs.YtnepjcpbahhngaaDoor
