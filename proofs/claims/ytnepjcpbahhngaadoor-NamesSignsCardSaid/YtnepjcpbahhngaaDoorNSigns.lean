/- The statement NamesSigns: its walk. -/
import Derived.Test.YtnepjcpbahhngaaDoorNamesWakes
set_option maxRecDepth 4000
namespace Go.Proofs.YtnepjcpbahhngaaDoor
open Go Go.RowKit
attribute [local go_sem] strB_size
theorem lit_1' : (⟨#[97]⟩ : ByteArray) = strB [97#8] := lit_1
theorem good_turned {q : List (BitVec 8)} (h : goodN q = true) (k : Nat) (hk : k < q.length) (c : BitVec 8) : goodN (q.take k ++ [c] ++ q.drop (k + 1)) = letter c := by
  obtain ⟨h1, h4, hl⟩ := good_len h
  have hlen : (q.take k ++ [c] ++ q.drop (k + 1)).length = q.length := by simp; omega
  have h2 : (q.take k).all letter = true := List.all_eq_true.2 fun x hx => hl x (List.mem_of_mem_take hx)
  have h3 : (q.drop (k + 1)).all letter = true := List.all_eq_true.2 fun x hx => hl x (List.mem_of_mem_drop hx)
  unfold goodN
  rw [hlen, decide_eq_true h1, decide_eq_true h4, List.all_append, List.all_append, h2, h3]; simp
theorem good_more {q : List (BitVec 8)} (h : goodN q = true) : goodN (q ++ [97#8]) = decide (q.length < 4) := by
  obtain ⟨h1, h4, hl⟩ := good_len h
  have h2 : q.all letter = true := List.all_eq_true.2 hl
  have h3 : letter 97#8 = true := by decide
  unfold goodN
  rw [List.length_append, List.all_append, h2, decide_eq_true (by simp)]
  simp [h3]
  omega
theorem all_succ (q : List (BitVec 8)) (k : Nat) (h : k < q.length) : (q.take (k + 1)).all letter = ((q.take k).all letter && letter (q.getD k 0#8)) := by
  rw [List.take_succ_eq_append_getElem h, List.all_append, List.getD_eq_getElem?_getD, List.getElem?_eq_getElem h]; simp
set_option maxRecDepth 20000 in
set_option maxHeartbeats 3200000 in
theorem nsigns_walk (q : List (BitVec 8)) (a c : BitVec 8) (w : World) (hqm : q.length ≤ maxLen) :
    Calls Tryd.prog 5 #[.string (strB q), .int .u8 (bd a), .int .u8 (bd c)] w fun e w' => e = .returned (.bool true) ∧ Below w.heap.size w w' := by
  obtain ⟨m, hm⟩ : ∃ m, q.length = m := ⟨_, rfl⟩
  have hsz : (strB q).size = m := by rw [strB_size, hm]
  have HSZ := Lib.hid hsz
  have HQL := Lib.hid hm
  have HM := Lib.hid hqm
  clear hm hqm
  by_cases hbad : 100 < m ∨ m = 0
  · have hnone : ∃ x, decide ((100 : Int) < (m : Int)) = x ∧ (x = false → ((m : Int) == 0) = true) := ⟨_, rfl, fun h => by
      have := of_decide_eq_false h
      have : m = 0 := by omega
      subst this; rfl⟩
    obtain ⟨x, hx, hx0⟩ := hnone
    have HG3 := Lib.hid nw_g3
    cases x with
    | true =>
      clear hx0
      go_enter Tryd.func5, Tryd.ntmps5
      go_wp2_with fail
      refine (HG3.out w).mono ?_
      rintro e w1 ⟨rfl, hb1⟩
      go_wp2_with fail
      refine (nwakes_any _).mono ?_
      rintro e w2 ⟨rfl, hb2⟩
      go_wp2_with fail
      go_ret
      exact ⟨rfl, hb1.trans (hb2.mono hb1.size)⟩
    | false =>
      have hx0 := hx0 rfl
      have hm0 : m = 0 := by have := of_decide_eq_false hx; omega
      subst hm0
      clear hx0
      go_enter Tryd.func5, Tryd.ntmps5
      go_wp2_with fail
      refine (HG3.out w).mono ?_
      rintro e w1 ⟨rfl, hb1⟩
      go_wp2_with fail
      refine (nwakes_any _).mono ?_
      rintro e w2 ⟨rfl, hb2⟩
      go_wp2_with fail
      go_ret
      exact ⟨rfl, hb1.trans (hb2.mono hb1.size)⟩
  · have h100 : m ≤ 100 := by omega
    have hm1 : 0 < m := by omega
    have hd0 : decide ((100 : Int) < (m : Int)) = false := decide_eq_false (by omega)
    have he0 : ((m : Int) == 0) = false := beq_eq_false_iff_ne.2 (by omega)
    have hm0 : ¬ m = 0 := by omega
    clear hbad
    have H4 : Hid (decide ((m : Int) ≤ 4) = decide (m ≤ 4)) := Lib.hid (decide_eq_decide.2 (by omega))
    have h4 := H4.out
    have HIX : Hid (∀ w (j : Nat), j < m → (Instr.index 9 (.string (strB q)) (.int .i64 (j : Int))).run Tryd.prog w = .ok (.int .u8 (bd (q.getD j 0#8))) w) := Lib.hid fun w j hj => run_ix w 9 q .i64 j Tryd.underlying9 (by rw [HQL.out]; exact hj)
    go_enter Tryd.func5, Tryd.ntmps5
    go_wp2_with fail
    clear h4
    go_loopw [7, 8] (fun g i wr => ∃ k : Nat, k ≤ m ∧ i = .int .i64 k ∧ g = .bool (decide (m ≤ 4) && (q.take k).all letter) ∧ wr = w) (fun _ i _ => m - (intOf i).toNat)
    case atStart => exact ⟨0, by omega, rfl, by first | rfl | simp | (rw [H4.out]; simp), rfl⟩
    case round =>
      obtain ⟨k, hk, rfl, rfl, rfl⟩ := hrel
      by_cases hlt : k < m
      · have hix := fun w => HIX.out w k hlt
        have HSU := Lib.hid (all_succ q k (by rw [HQL.out]; exact hlt))
        obtain ⟨x, hx⟩ : ∃ x, q.getD k 0#8 = x := ⟨_, rfl⟩
        rw [hx] at hix HSU
        clear hx
        have HSU2 : Hid ((decide (m ≤ 4) && (q.take (k + 1)).all letter) = ((decide (m ≤ 4) && (q.take k).all letter) && decide (97 ≤ bd x) && decide (bd x ≤ 122))) := Lib.hid (by rw [HSU.out]; unfold letter; simp only [Bool.and_assoc])
        generalize (decide (m ≤ 4) && (q.take k).all letter) = G at *
        clear HSU
        have hk0 : (0 : Int) ≤ (k : Int) := by omega
        have hk1 : (k : Int) < (m : Int) := by omega
        have hkd : decide ((k : Int) < (m : Int)) = true := decide_eq_true hk1
        have hw : IntKind.i64.wrap ((k : Int) + 1) = ((k + 1 : Nat) : Int) := by rw [i64_id _ (by omega) (by omega)]; omega
        cases G with
        | false =>
          go_wp2_with fail
          exact ⟨⟨k + 1, by omega, by go_num, by rw [HSU2.out]; rfl, trivial⟩, by simp [intOf]; omega⟩
        | true =>
          cases h97 : decide (97 ≤ bd x) with
          | false =>
            rw [h97] at HSU2
            go_wp2_with fail
            exact ⟨⟨k + 1, by omega, by go_num, by rw [HSU2.out]; rfl, trivial⟩, by simp [intOf]; omega⟩
          | true =>
            rw [h97] at HSU2
            cases h122 : decide (bd x ≤ 122) with
            | false =>
              rw [h122] at HSU2
              go_wp2_with fail
              exact ⟨⟨k + 1, by omega, by go_num, by rw [HSU2.out]; rfl, trivial⟩, by simp [intOf]; omega⟩
            | true =>
              rw [h122] at HSU2
              go_wp2_with fail
              exact ⟨⟨k + 1, by omega, by go_num, by rw [HSU2.out]; rfl, trivial⟩, by simp [intOf]; omega⟩
      · obtain rfl : k = m := by omega
        have hkd : decide ((k : Int) < (k : Int)) = false := decide_eq_false (by omega)
        have hqk : q.take k = q := List.take_of_length_le (by rw [HQL.out]; exact Nat.le_refl _)
        have HGQ : Hid (goodN q = (decide (k ≤ 4) && (q.take k).all letter)) := Lib.hid (by unfold goodN; rw [HQL.out, decide_eq_true (show 1 ≤ k by omega), hqk]; rfl)
        clear hqk
        rw [← HGQ.out]
        clear HGQ
        have CG := Lib.hid (good_any [q] _ _ (strs1 wr q HM.out 9) (by unfold maxLen; simp))
        have e1 : goodNs [q] = goodN q := by unfold goodNs; simp
        rw [e1] at CG
        clear e1
        have HBA := Lib.hid ((Below.refl wr.heap.size wr).alloc (Nat.le_refl _) (.cells #[.string (strB q)] 9))
        cases hg : goodN q with
        | false =>
          rw [hg] at CG
          clear hg
          go_wp2_with fail
          refine CG.out.mono ?_
          rintro e w2 ⟨rfl, hb2⟩
          have HB2 := Lib.hid (HBA.out.trans (hb2.mono HBA.out.size))
          go_wp2_with fail
          refine (nwakes_any _).mono ?_
          rintro e w3 ⟨rfl, hb3⟩
          go_wp2_with fail
          go_ret
          exact ⟨rfl, HB2.out.trans (hb3.mono HB2.out.size)⟩
        | true =>
          rw [hg] at CG
          obtain ⟨i, hi⟩ : ∃ i, (wrap64 (bd a)).tmod (k : Int) = i := ⟨_, rfl⟩
          have hwa : wrap64 (bd a) = bd a := by have := bd_lo a; have := bd_hi a; unfold wrap64; omega
          have hir : 0 ≤ i ∧ i < (k : Int) := by rw [← hi, hwa]; exact ⟨Int.tmod_nonneg _ (bd_lo a), Int.tmod_lt_of_pos _ (by omega)⟩
          obtain ⟨s, hs⟩ := Int.eq_ofNat_of_zero_le hir.1
          have hsk : s < k := by omega
          have HG4 := Lib.hid (good_turned hg s (by rw [HQL.out]; exact hsk) c)
          have HG5 := Lib.hid (good_more hg)
          rw [HQL.out] at HG5
          have HK4 : Hid (k ≤ 4) := Lib.hid (by have := (good_len hg).2.1; rw [HQL.out] at this; exact this)
          obtain ⟨p1, hp1⟩ : ∃ p, q.take s = p := ⟨_, rfl⟩
          obtain ⟨p2, hp2⟩ : ∃ p, p1 ++ [c] = p := ⟨_, rfl⟩
          obtain ⟨p3, hp3⟩ : ∃ p, q.drop (s + 1) = p := ⟨_, rfl⟩
          obtain ⟨p4, hp4⟩ : ∃ p, p2 ++ p3 = p := ⟨_, rfl⟩
          have l1 : p1.length = s := by rw [← hp1, List.length_take, HQL.out]; omega
          have l2 : p2.length = s + 1 := by rw [← hp2, List.length_append, l1]; rfl
          have l3 : p3.length = k - (s + 1) := by rw [← hp3, List.length_drop, HQL.out]
          have l4 : p4.length ≤ 8 := by have := HK4.out; rw [← hp4, List.length_append, l2, l3]; omega
          rw [hp1, hp2, hp3, hp4] at HG4
          have HM4 : Hid (p4.length ≤ maxLen) := Lib.hid (by unfold maxLen; omega)
          have HM5 : Hid ((q ++ [97#8]).length ≤ maxLen) := Lib.hid (by have := HK4.out; rw [List.length_append, HQL.out]; unfold maxLen; simp; omega)
          have HX1 : Hid ((strB q).extract 0 i.toNat = strB p1) := Lib.hid (by rw [str_extract, hs, List.drop_zero, Nat.sub_zero]; exact congrArg strB hp1)
          have HX2 : Hid (strB p1 ++ strB [c] = strB p2) := Lib.hid (by rw [str_append, hp2])
          obtain ⟨j, hj⟩ : ∃ j, i + 1 = j := ⟨_, rfl⟩
          have HX3 : Hid (IntKind.i64.wrap (i + 1) = j) := Lib.hid (by rw [i64_id _ (by omega) (by have := HK4.out; omega), hj])
          have HX4 : Hid ((strB q).extract j.toNat k = strB p3) := Lib.hid (by
            have : j.toNat = s + 1 := by omega
            rw [str_extract, this, ← hp3, List.take_of_length_le (by rw [List.length_drop, HQL.out]; exact Nat.le_refl _)])
          have HX5 : Hid (strB p2 ++ strB p3 = strB p4) := Lib.hid (by rw [str_append, hp4])
          have HI0 : Hid (0 ≤ i) := Lib.hid hir.1
          have HI1 : Hid (i ≤ (k : Int)) := Lib.hid (by omega)
          have HJ0 : Hid (0 ≤ j) := Lib.hid (by omega)
          have HJ1 : Hid (j ≤ (k : Int)) := Lib.hid (by omega)
          have HSZ1 : Hid (¬ 9223372036854775807 < p1.length + 1) := Lib.hid (by have := HK4.out; omega)
          have HSZ2 : Hid (¬ 9223372036854775807 < p2.length + p3.length) := Lib.hid (by have := HK4.out; omega)
          have HSZ3 : Hid (¬ 9223372036854775807 < q.length + 1) := Lib.hid (by have := HK4.out; have := HQL.out; omega)
          have HSZ4 : Hid (¬ 9223372036854775807 < k + 1) := Lib.hid (by have := HK4.out; omega)
          have HM4' : Hid (k ≤ 4) := HK4
          have HD4 : Hid (decide ((k : Int) < 4) = decide (k < 4)) := Lib.hid (decide_eq_decide.2 (by omega))
          have hrem := hi
          have HWI : Hid (IntKind.i64.wrap i = i) := Lib.hid (by rw [i64_id _ (by omega) (by have := HK4.out; omega)])
          have hwi := HWI.out
          have hk00 : ¬ (k : Int) = 0 := by omega
          clear hp1 hp2 hp3 hp4 l1 l2 l3 l4 hs hsk hir hj hg hwa
          have HS0 := Lib.hid HBA.out
          go_wp2_with fail
          refine CG.out.mono ?_
          rintro e w2 ⟨rfl, hb2⟩
          have HS : St wr noF [] w2 := (St.nil wr noF).same (HBA.out.trans (hb2.mono HBA.out.size))
          clear hb2 HBA CG HS0
          go_upto_region 13 with fail
          clear hwi hrem hsz
          have hF0 : Wl [fun W => St wr noF [] W] 0 w2.drew := HS.drew
          clear HS
          refine wp_region_phs [is (.string (strB q)), is (.int .i64 i), is (.string (strB p1)), is (.int .u8 (bd c)), sl [c], is (.string (strB [c])), is (.string (strB p2)), is (.string (strB q)), is (.int .i64 i), is (.int .i64 j), is (.string (strB p3)), is (.string (strB p4)), is (.string (strB p4))] [true, true, true, true, false, true, true, true, true, true, true, true, true] [(fun W => St wr noF [] W)] [false, false, false, false, false, false, false, false, false, false, false, false, false] [some 0, some 0, some 0, some 0, some 0, some 0, some 0, some 0, some 0, some 0, some 0, some 0, some 0] [some 60, some 61, some 62, some 63, some 64, some 65, some 66, some 67, some 68, some 69, some 70, some 71, some 10] 13 0 (fun _ => true) rfl rfl (by kernel_rfl) (by kernel_rfl) (by kernel_rfl) (by kernel_rfl) ?_ ?_ ?_ ?_ ?_ ?_
          · repeat first | exact wok_nil | refine wok_cons (by first | exact fun _ _ h k => h.same k) ?_
          · repeat first | exact vok_nil | refine vok_rig (by first | exact fun _ _ _ h => h) ?_ | refine vok_soft (by first | exact fun _ _ _ h _ => h | exact fun _ _ _ h k => Slice.below h k (Nat.le_refl _)) ?_
          · exact hF0
          · repeat first | exact all_end (by decide) | refine all_cons (by first | exact rfl | exact ⟨rfl, fun _ _ h => Or.inl h⟩ | exact ⟨rfl, fun _ _ h => Or.inr ⟨h, rfl⟩⟩) ?_
          · refine allp_mild 0 rfl rfl rfl (fun a x W hout hin hP => ?_) ?_
            · have e0 : a.tmps[0]? = some (.string (strB q)) := (hout 0 (by kernel_rfl)).trans rfl
              exact does_move rfl e0 ⟨Same.refl _, rfl⟩
            refine allp_mild 0 rfl rfl rfl (fun a x W hout hin hP => ?_) ?_
            · have e9 : a.tmps[9]? = some (.int .i64 i) := (hout 9 (by kernel_rfl)).trans rfl
              exact does_move rfl e9 ⟨Same.refl _, rfl⟩
            refine allp_mild 0 rfl rfl rfl (fun a x W hout hin hP => ?_) ?_
            · have e60 := hin.is 0 60 (by kernel_rfl) (by decide) (by kernel_rfl) (by kernel_rfl) _ rfl
              have e61 := hin.is 1 61 (by kernel_rfl) (by decide) (by kernel_rfl) (by kernel_rfl) _ rfl
              have hx := HX1.out
              have hz := HSZ.out
              have i0 := HI0.out
              have i1 := HI1.out
              clear hin hout
              intro K0 Q hK
              go_simp
              exact hK _ _ ⟨Same.refl _, rfl⟩
            refine allp_mild 0 rfl rfl rfl (fun a x W hout hin hP => ?_) ?_
            · have e2 : a.tmps[2]? = some (.int .u8 (bd c)) := (hout 2 (by kernel_rfl)).trans rfl
              exact does_move rfl e2 ⟨Same.refl _, rfl⟩
            refine allp_mild 0 rfl rfl rfl (fun a x W hout hin hP => ?_) ?_
            · have e63 := hin.is 3 63 (by kernel_rfl) (by decide) (by kernel_rfl) (by kernel_rfl) _ rfl
              clear hin hout
              intro K0 Q hK
              go_simp
              exact hK _ _ ⟨Same.alloc _ _, row_slice (Row.fresh _ 5 (bs [c])) (Nat.le_refl _)⟩
            refine allp_mild 0 rfl rfl rfl (fun a x W hout hin hP => ?_) ?_
            · obtain ⟨v64, e64, hv64⟩ := hin.get 4 64 (by kernel_rfl) (by decide) (by kernel_rfl) (.inr ⟨rfl, by kernel_rfl⟩)
              have hcv := conv_bytes hv64 9 Tryd.underlying9
              clear hP
              clear hin hout
              intro K0 Q hK
              go_simp
              exact hK _ _ ⟨Same.refl _, rfl⟩
            refine allp_mild 0 rfl rfl rfl (fun a x W hout hin hP => ?_) ?_
            · have e62 := hin.is 2 62 (by kernel_rfl) (by decide) (by kernel_rfl) (by kernel_rfl) _ rfl
              have e65 := hin.is 5 65 (by kernel_rfl) (by decide) (by kernel_rfl) (by kernel_rfl) _ rfl
              have hx := HX2.out
              have hz := HSZ1.out
              clear hin hout
              intro K0 Q hK
              go_simp
              exact hK _ _ ⟨Same.refl _, rfl⟩
            refine allp_mild 0 rfl rfl rfl (fun a x W hout hin hP => ?_) ?_
            · have e0 : a.tmps[0]? = some (.string (strB q)) := (hout 0 (by kernel_rfl)).trans rfl
              exact does_move rfl e0 ⟨Same.refl _, rfl⟩
            refine allp_mild 0 rfl rfl rfl (fun a x W hout hin hP => ?_) ?_
            · have e9 : a.tmps[9]? = some (.int .i64 i) := (hout 9 (by kernel_rfl)).trans rfl
              exact does_move rfl e9 ⟨Same.refl _, rfl⟩
            refine allp_mild 0 rfl rfl rfl (fun a x W hout hin hP => ?_) ?_
            · have e68 := hin.is 8 68 (by kernel_rfl) (by decide) (by kernel_rfl) (by kernel_rfl) _ rfl
              have hx := HX3.out
              clear hin hout
              intro K0 Q hK
              go_simp
              exact hK _ _ ⟨Same.refl _, rfl⟩
            refine allp_mild 0 rfl rfl rfl (fun a x W hout hin hP => ?_) ?_
            · have e67 := hin.is 7 67 (by kernel_rfl) (by decide) (by kernel_rfl) (by kernel_rfl) _ rfl
              have e69 := hin.is 9 69 (by kernel_rfl) (by decide) (by kernel_rfl) (by kernel_rfl) _ rfl
              have hx := HX4.out
              have hz := HSZ.out
              have i0 := HJ0.out
              have i1 := HJ1.out
              clear hin hout
              intro K0 Q hK
              go_simp
              exact hK _ _ ⟨Same.refl _, rfl⟩
            refine allp_mild 0 rfl rfl rfl (fun a x W hout hin hP => ?_) ?_
            · have e66 := hin.is 6 66 (by kernel_rfl) (by decide) (by kernel_rfl) (by kernel_rfl) _ rfl
              have e70 := hin.is 10 70 (by kernel_rfl) (by decide) (by kernel_rfl) (by kernel_rfl) _ rfl
              have hx := HX5.out
              have hz := HSZ2.out
              clear hin hout
              intro K0 Q hK
              go_simp
              exact hK _ _ ⟨Same.refl _, rfl⟩
            refine allp_mild 0 rfl rfl rfl (fun a x W hout hin hP => ?_) ?_
            · have e71 := hin.is 11 71 (by kernel_rfl) (by decide) (by kernel_rfl) (by kernel_rfl) _ rfl
              exact does_assign rfl e71 ⟨Same.refl _, rfl⟩
            exact all_end (by decide)
          · intro x W hP hV
            have h : x 12 = .string (strB p4) := hV 12 (by decide) (.inl (by kernel_rfl))
            have HB := Lib.hid (St.below hP)
            clear hV hP
            simp only [putL, Act.put, List.setIfInBounds_toArray, List.set_cons_succ, List.set_cons_zero, h]
            refine wpAnyH_done (by kernel_rfl) ?_ _
            clear h
            have CG := Lib.hid (good_any [p4] _ _ (strs1 W p4 HM4.out 9) (by unfold maxLen; simp))
            have e1 : goodNs [p4] = goodN p4 := by unfold goodNs; simp
            rw [e1, HG4.out] at CG
            clear e1
            have HBA := Lib.hid (HB.out.alloc HB.out.size (.cells #[.string (strB p4)] 9))
            go_wp2_with fail
            refine CG.out.mono ?_
            rintro e w2 ⟨rfl, hb2⟩
            have HB2 := Lib.hid (HBA.out.trans (hb2.mono HBA.out.size))
            clear hb2 HBA HB CG
            have CH := Lib.hid (good_any [q ++ [97#8]] _ _ (strs1 w2 (q ++ [97#8]) HM5.out 9) (by unfold maxLen; simp))
            have e1 : goodNs [q ++ [97#8]] = goodN (q ++ [97#8]) := by unfold goodNs; simp
            rw [e1, HG5.out] at CH
            clear e1
            have HBA := Lib.hid (HB2.out.alloc HB2.out.size (.cells #[.string (strB (q ++ [97#8]))] 9))
            have hadd2 : strB q ++ (⟨#[97]⟩ : ByteArray) = strB (q ++ [97#8]) := by rw [← str_append, ← lit_1']
            have hqs := HSZ.out
            have hz3 := HSZ3.out
            have hz4 := HSZ4.out
            have hm4 := HM4'.out
            have hd4 := HD4.out
            cases h97 : decide (97 ≤ bd c) with
            | false =>
              have HLT : Hid (letter c = false) := Lib.hid (by unfold letter; rw [h97]; rfl)
              have hlt := HLT.out
              cases hk4 : decide (k < 4) with
              | false =>
                rw [hk4] at CH hd4
                clear hk4
                go_wp2_with fail
                refine CH.out.mono ?_
                rintro e w3 ⟨rfl, hb3⟩
                have HB3 := Lib.hid (HBA.out.trans (hb3.mono HBA.out.size))
                clear hb3 HBA HB2 CH
                go_wp2_with fail
                refine (nwakes_any _).mono ?_
                rintro e w4 ⟨rfl, hb4⟩
                go_wp2_with fail
                go_ret
                exact ⟨rfl, HB3.out.trans (hb4.mono HB3.out.size)⟩
              | true =>
                rw [hk4] at CH hd4
                clear hk4
                go_wp2_with fail
                refine CH.out.mono ?_
                rintro e w3 ⟨rfl, hb3⟩
                have HB3 := Lib.hid (HBA.out.trans (hb3.mono HBA.out.size))
                clear hb3 HBA HB2 CH
                go_wp2_with fail
                refine (nwakes_any _).mono ?_
                rintro e w4 ⟨rfl, hb4⟩
                go_wp2_with fail
                go_ret
                exact ⟨rfl, HB3.out.trans (hb4.mono HB3.out.size)⟩
            | true =>
              cases h122 : decide (bd c ≤ 122) with
              | false =>
                have HLT : Hid (letter c = false) := Lib.hid (by unfold letter; rw [h97, h122]; rfl)
                have hlt := HLT.out
                cases hk4 : decide (k < 4) with
                | false =>
                  rw [hk4] at CH hd4
                  clear hk4
                  go_wp2_with fail
                  refine CH.out.mono ?_
                  rintro e w3 ⟨rfl, hb3⟩
                  have HB3 := Lib.hid (HBA.out.trans (hb3.mono HBA.out.size))
                  clear hb3 HBA HB2 CH
                  go_wp2_with fail
                  refine (nwakes_any _).mono ?_
                  rintro e w4 ⟨rfl, hb4⟩
                  go_wp2_with fail
                  go_ret
                  exact ⟨rfl, HB3.out.trans (hb4.mono HB3.out.size)⟩
                | true =>
                  rw [hk4] at CH hd4
                  clear hk4
                  go_wp2_with fail
                  refine CH.out.mono ?_
                  rintro e w3 ⟨rfl, hb3⟩
                  have HB3 := Lib.hid (HBA.out.trans (hb3.mono HBA.out.size))
                  clear hb3 HBA HB2 CH
                  go_wp2_with fail
                  refine (nwakes_any _).mono ?_
                  rintro e w4 ⟨rfl, hb4⟩
                  go_wp2_with fail
                  go_ret
                  exact ⟨rfl, HB3.out.trans (hb4.mono HB3.out.size)⟩
              | true =>
                have HLT : Hid (letter c = true) := Lib.hid (by unfold letter; rw [h97, h122]; rfl)
                have hlt := HLT.out
                cases hk4 : decide (k < 4) with
                | false =>
                  rw [hk4] at CH hd4
                  clear hk4
                  go_wp2_with fail
                  refine CH.out.mono ?_
                  rintro e w3 ⟨rfl, hb3⟩
                  have HB3 := Lib.hid (HBA.out.trans (hb3.mono HBA.out.size))
                  clear hb3 HBA HB2 CH
                  go_wp2_with fail
                  refine (nwakes_any _).mono ?_
                  rintro e w4 ⟨rfl, hb4⟩
                  go_wp2_with fail
                  go_ret
                  exact ⟨rfl, HB3.out.trans (hb4.mono HB3.out.size)⟩
                | true =>
                  rw [hk4] at CH hd4
                  clear hk4
                  go_wp2_with fail
                  refine CH.out.mono ?_
                  rintro e w3 ⟨rfl, hb3⟩
                  have HB3 := Lib.hid (HBA.out.trans (hb3.mono HBA.out.size))
                  clear hb3 HBA HB2 CH
                  go_wp2_with fail
                  refine (nwakes_any _).mono ?_
                  rintro e w4 ⟨rfl, hb4⟩
                  go_wp2_with fail
                  go_ret
                  exact ⟨rfl, HB3.out.trans (hb4.mono HB3.out.size)⟩
end Go.Proofs.YtnepjcpbahhngaaDoor
