/- Merged: RepRefD RepTurn RepRefA. -/
import Derived.Test.YtamofhjnpahamaaMLabel0
import Derived.Test.YtamofhjnpahamaaMGen0
import Derived.Test.YtamofhjnpahamaaMSeal0
/- The document's reply of bytes, or that there is none. -/
set_option maxRecDepth 4000
namespace Go.Proofs.Ytamofhjnpahamaa
open Go Go.RowKit
theorem str_cmp (p q : List (BitVec 8)) : ((strB p).toList == (strB q).toList) = decide (p = q) := by
  rw [ba_toList, ba_toList]
  by_cases h : p = q
  · subst h; rw [decide_eq_true rfl]; exact beq_self_eq_true _
  · rw [decide_eq_false h]
    refine beq_eq_false_iff_ne.2 fun e => h (strB_inj ?_)
    have e2 : (strB p).data = (strB q).data := Array.toList_inj.1 e
    generalize strB p = a at *
    generalize strB q = b at *
    cases a; cases b; simp only at e2; rw [e2]
set_option maxHeartbeats 800000 in
theorem refdec_rlen (A : Option Addr) (n cc : Nat) (w : World) (hn : n < 8) :
    Calls Try.prog 16 #[.slice A n cc] w fun e w' => e = .returned (.tuple #[.agg (repCells 0 0 (.slice none 0 0)), .int .i64 11]) ∧ Below w.heap.size w w' := by
  have hlt : (n : Int) < 8 := by omega
  have HS := St.nil w noF
  go_enter Try.func16, Try.ntmps16
  go_upto_region 1 with (first | ((with_reducible refine wpList_plain ?_ ?_); exact rfl; intro KK hKK; refine wp_st_alloc HS 31 (repCells 0 0 (.slice none 0 0)) rfl (.agg (repCells 0 0 (.slice none 0 0))) (by kernel_rfl) (rfl) (fun g2 W1 HSx => hKK _ _ ?_); clear hKK KK HS; have HS : St w noF [⟨g2, 31, repCells 0 0 (.slice none 0 0)⟩] W1 := HSx; clear HSx))
  have HS := HS
  go_wp2_with (first | ((with_reducible refine wpList_plain ?_ ?_); exact rfl; intro KK hKK; refine wp_st_store HS 0 0 31 (.tmp 2) (.tmp 20) rfl rfl rfl (.agg (repCells 0 0 (.slice none 0 0))) rfl (by exact size_rep) (Nat.le_refl 3) (one_rep _ _ _ _ _) (repCells 0 0 (.slice none 0 0)) (spl_agg _ _ _ rfl rfl) (fun W31 HSx => hKK _ _ ?_); clear hKK KK HS; have HS : St w noF [⟨g2, 31, repCells 0 0 (.slice none 0 0)⟩] W31 := HSx; clear HSx))
  exact bodyPost_ret (v := .tuple #[.agg (repCells 0 0 (.slice none 0 0)), .int .i64 11]) (results_cell_tmp Try.results16 _ _ g2 31 (repCells 0 0 (.slice none 0 0)) (0, 0) _ rfl (HS.row 0 rfl) Try.underlying31 rfl (by exact size_rep)) rfl ⟨rfl, HS.below⟩
set_option maxHeartbeats 800000 in
theorem refdec_rcount (g o cc m : Nat) (q : List (BitVec 8)) (w : World) (hB : BAt w g o q) (hl : q.length = m + 8) (_ : m + 8 ≤ cc) (hm : m ≤ 999999990) (h5 : ¬ (m : Int) = bd (q.getD 5 0#8)) :
    Calls Try.prog 16 #[.slice (some ⟨g, o, none⟩) (m + 8) cc] w fun e w' => e = .returned (.tuple #[.agg (repCells 0 0 (.slice none 0 0)), .int .i64 11]) ∧ Below w.heap.size w w' := by
  have HBA0 := Lib.hid hB
  have HQL := Lib.hid hl
  have l8 : ¬ (m : Int) + 8 < 8 := by omega
  have l5 : (5 : Int) < (m : Int) + 8 := by omega
  have l5n : 5 < m + 8 := by omega
  obtain ⟨x5, hx5⟩ : ∃ x, q.getD 5 0#8 = x := ⟨_, rfl⟩
  have HX5 := Lib.hid hx5
  rw [hx5] at h5
  have hw5 := i64_bd x5
  have hs5 : IntKind.i64.wrap (8 + bd x5) = 8 + bd x5 := i64_id _ (by have := bd_lo x5; omega) (by have := bd_hi x5; omega)
  have hne : ¬ (m : Int) + 8 = 8 + bd x5 := by omega
  have hne2 : ((m : Int) + 8 == 8 + bd x5) = false := beq_eq_false_iff_ne.2 hne
  clear hB hl hm hx5 h5
  have HS := St.nil w noF
  go_enter Try.func16, Try.ntmps16
  go_upto_region 1 with (first | ((with_reducible refine wpList_plain ?_ ?_); exact rfl; intro KK hKK; refine wp_st_alloc HS 31 (repCells 0 0 (.slice none 0 0)) rfl (.agg (repCells 0 0 (.slice none 0 0))) (by kernel_rfl) (rfl) (fun g2 W1 HSx => hKK _ _ ?_); clear hKK KK HS; have HS : St w noF [⟨g2, 31, repCells 0 0 (.slice none 0 0)⟩] W1 := HSx; clear HSx))
  have HS := HS
  have c5 : W1.cell? ⟨g, o + 5, none⟩ = some (.int .u8 (bd x5)) := HX5.out ▸ (HBA0.out.call HS.below).get 5 (by rw [HQL.out]; omega)
  go_wp2_with (first | ((with_reducible refine wpList_plain ?_ ?_); exact rfl; intro KK hKK; refine wp_st_store HS 0 0 31 (.tmp 2) (.tmp 20) rfl rfl rfl (.agg (repCells 0 0 (.slice none 0 0))) rfl (by exact size_rep) (Nat.le_refl 3) (one_rep _ _ _ _ _) (repCells 0 0 (.slice none 0 0)) (spl_agg _ _ _ rfl rfl) (fun W31 HSx => hKK _ _ ?_); clear hKK KK HS; have HS : St w noF [⟨g2, 31, repCells 0 0 (.slice none 0 0)⟩] W31 := HSx; clear HSx))
  exact bodyPost_ret (v := .tuple #[.agg (repCells 0 0 (.slice none 0 0)), .int .i64 11]) (results_cell_tmp Try.results16 _ _ g2 31 (repCells 0 0 (.slice none 0 0)) (0, 0) _ rfl (HS.row 0 rfl) Try.underlying31 rfl (by exact size_rep)) rfl ⟨rfl, HS.below⟩
set_option maxRecDepth 20000 in
set_option maxHeartbeats 1600000 in
theorem refdec_rno (g o cc m : Nat) (q : List (BitVec 8)) (w : World) (hB : BAt w g o q) (hl : q.length = m + 8) (hc : m + 8 ≤ cc) (hm : m ≤ 999999990) (h5 : (m : Int) = bd (q.getD 5 0#8)) (hmr : mayR (rpI q) (rpE q) m = false) :
    Calls Try.prog 16 #[.slice (some ⟨g, o, none⟩) (m + 8) cc] w fun e w' => e = .returned (.tuple #[.agg (repCells 0 0 (.slice none 0 0)), .int .i64 11]) ∧ Below w.heap.size w w' := by
  have HBA0 := Lib.hid hB
  have HQL := Lib.hid hl
  have HCC := Lib.hid hc
  have HM := Lib.hid hm
  have k0 : ¬ cc = 0 := by omega
  have k6 : ¬ cc = 6 := by omega
  have l6 : 6 ≤ cc := by omega
  have l8 : ¬ (m : Int) + 8 < 8 := by omega
  have l4 : (4 : Int) < (m : Int) + 8 := by omega
  have l4n : 4 < m + 8 := by omega
  have l66 : (6 : Int) ≤ (m : Int) + 6 := by omega
  have lmc : (m : Int) + 6 ≤ (cc : Int) := by omega
  have lmn : m + 6 ≤ cc := by omega
  obtain ⟨x4, hx4⟩ : ∃ x, q.getD 4 0#8 = x := ⟨_, rfl⟩
  obtain ⟨i, hi⟩ : ∃ i, lv 0 q = i := ⟨_, rfl⟩
  have HI4 : Hid (num (q.take 4) = i) := Lib.hid (by rw [← hi, lv_num q 0 (by omega), List.drop_zero])
  obtain ⟨x5, hx5⟩ : ∃ x, q.getD 5 0#8 = x := ⟨_, rfl⟩
  have HX5 := Lib.hid hx5
  rw [hx5] at h5
  have l5 : (5 : Int) < (m : Int) + 8 := by omega
  have l5n : 5 < m + 8 := by omega
  have l4c : (4 : Int) ≤ (cc : Int) := by omega
  have l4cn : 4 ≤ cc := by omega
  have hw5 := i64_bd x5
  have hs5 : IntKind.i64.wrap (8 + bd x5) = (m : Int) + 8 := by rw [show 8 + bd x5 = (m : Int) + 8 by omega]; exact i64_id _ (by omega) (by omega)
  obtain ⟨d, hd⟩ : ∃ d, (q.drop 6).take m = d := ⟨_, rfl⟩
  have HX4 := Lib.hid hx4
  have HI := Lib.hid hi
  have HD := Lib.hid hd
  have HDL : Hid (d.length = m) := Lib.hid (by rw [← hd, List.length_take, List.length_drop, hl]; omega)
  have hri : rpI q = wd i := by unfold rpI; rw [hi]
  have hre : rpE q = bd x4 := by unfold rpE; rw [hx4]
  have hrd : rpD q = d := by unfold rpD; rw [hl]; exact hd
  rw [hri, hre] at hmr
  have HMR := Lib.hid hmr
  clear hmr
  clear hB hl hc hm hx4 hx5 hi hd hri hre hrd h5
  have HS := St.nil w noF
  go_enter Try.func16, Try.ntmps16
  go_upto_region 1 with (first | ((with_reducible refine wpList_plain ?_ ?_); exact rfl; intro KK hKK; refine wp_st_alloc HS 31 (repCells 0 0 (.slice none 0 0)) rfl (.agg (repCells 0 0 (.slice none 0 0))) (by kernel_rfl) (rfl) (fun g2 W1 HSx => hKK _ _ ?_); clear hKK KK HS; have HS : St w noF [⟨g2, 31, repCells 0 0 (.slice none 0 0)⟩] W1 := HSx; clear HSx))
  have HS := HS
  obtain ⟨B0, hB0⟩ : ∃ B0, W1.heap.size = B0 := ⟨_, rfl⟩
  have HBA1 : BAt W1 g o q := HBA0.out.call HS.below
  have HB0 : Hid (w.heap.size ≤ B0) := Lib.hid (by rw [← hB0]; exact HS.below.size)
  have HLT : Hid (∀ b ∈ ([⟨g2, 31, repCells 0 0 (.slice none 0 0)⟩] : List Blk), b.g < B0) := Lib.hid (by rw [← hB0]; exact fun b hb => HS.lt hb)
  have HGB : Hid (g < B0) := Lib.hid (by rw [← hB0]; exact HBA1.lt)
  have HBB : Hid (B0 ≤ W1.heap.size) := Lib.hid (Nat.le_of_eq hB0.symm)
  clear hB0 HBA0
  have c5 : W1.cell? ⟨g, o + 5, none⟩ = some (.int .u8 (bd x5)) := HX5.out ▸ HBA1.get 5 (by rw [HQL.out]; omega)
  go_upto_region 3 with fail
  clear c5 hw5 hs5
  have hF0 : Wl [fun W => St w noF [⟨g2, 31, repCells 0 0 (.slice none 0 0)⟩] W ∧ BAt W g o q ∧ B0 ≤ W.heap.size, fun W => St w noF [⟨g2, 31, repCells 0 0 (.slice none 0 0)⟩] W ∧ BAt W g o q ∧ B0 ≤ W.heap.size] 0 W1.drew := ⟨HS.drew, HBA1.call (Below.refl _ _).drew, HBB.out⟩
  clear HS HBA1 HBB
  refine wp_region_phas [is (.slice (some ⟨g, o, none⟩) (m + 8) cc), is (.slice (some ⟨g, o, none⟩) 4 cc), is (.int .u32 (wd i)), is (.int .i64 (wd i)), is (.slice (some ⟨g, o, none⟩) (m + 8) cc), is (.pointer (some ⟨g, o + 4, none⟩)), is (.int .u8 (bd x4)), is (.int .i64 (bd x4)), (fun v W => ∃ k, v = Value.slice (some ⟨k, 0, none⟩) 0 0 ∧ W.ownsRow B0 5 1 v 0 []), is (.slice (some ⟨g, o, none⟩) (m + 8) cc), is (.slice (some ⟨g, o, none⟩) (m + 8) cc), is (.int .i64 ((m : Int) + 8)), is (.int .i64 ((m : Int) + 6)), is (.slice (some ⟨g, o + 6, none⟩) m (cc - 6)), (fun u W => W.ownsRow B0 5 1 u m (bytesV d)), (fun v W => ∃ u, v = Value.agg (repCells (wd i) (bd x4) u) ∧ W.ownsRow B0 5 1 u m (bytesV d)), (fun v W => ∃ k, v = Value.pointer (some ⟨k, 0, none⟩) ∧ Row W k 31 (repCells 0 0 (.slice none 0 0)) ∧ B0 ≤ k), (fun v W => ∃ k u, v = Value.pointer (some ⟨k, 0, none⟩) ∧ Row W k 31 (repCells (wd i) (bd x4) u) ∧ B0 ≤ k ∧ W.ownsRow B0 5 1 u m (bytesV d))] [true, true, true, true, true, true, true, true, false, true, true, true, true, true, false, false, false, false] [(fun W => St w noF [⟨g2, 31, repCells 0 0 (.slice none 0 0)⟩] W ∧ BAt W g o q ∧ B0 ≤ W.heap.size), (fun W => St w noF [⟨g2, 31, repCells 0 0 (.slice none 0 0)⟩] W ∧ BAt W g o q ∧ B0 ≤ W.heap.size)] [false, false, false, false, false, false, false, false, false, false, false, false, false, false, false, false, false, true] [some 0, some 0, some 0, some 0, some 0, some 0, some 0, some 0, some 0, some 0, some 0, some 0, some 0, some 0, some 0, some 0, some 0, some 0] [none, none, none, none, none, none, none, none, none, none, none, none, none, none, none, none, none, some 16] [some 21, some 22, some 23, some 24, some 25, some 26, some 27, some 28, some 29, some 30, some 31, some 32, some 33, some 34, some 35, some 36, some 4, none] 18 1 (fun _ => true) rfl rfl (by kernel_rfl) (by kernel_rfl) (by kernel_rfl) (by kernel_rfl) (by kernel_rfl) ?_ ?_ ?_ ?_ ?_ ?_
  · repeat first | exact wok_nil | refine wok_cons (by first | exact fun _ _ h k => ⟨h.1.same k, h.2.1.call k, Nat.le_trans h.2.2 k.size⟩) ?_
  · repeat first | exact vok_nil | refine vok_rig (by first | exact fun _ _ _ h => h) ?_ | refine vok_soft (by first | exact fun _ _ _ h _ => h | exact fun _ _ _ h k => owns_call h k | exact fun _ _ _ h k => ⟨h.choose, h.choose_spec.1, h.choose_spec.2.1.call k, h.choose_spec.2.2⟩ | exact fun _ _ _ h k => ⟨h.choose, h.choose_spec.1, owns_call h.choose_spec.2 k⟩ | exact fun _ _ _ h k => ⟨h.choose, h.choose_spec.choose, h.choose_spec.choose_spec.1, h.choose_spec.choose_spec.2.1.call k, h.choose_spec.choose_spec.2.2.1, owns_call h.choose_spec.choose_spec.2.2.2 k⟩) ?_
  · exact hF0
  · repeat first | exact all_end (by decide) | refine all_cons (by first | exact rfl | exact ⟨rfl, fun _ _ h => Or.inl h⟩ | exact ⟨rfl, fun _ _ h => Or.inr ⟨h, rfl⟩⟩) ?_
  · refine alla_old rfl (step_mild 0 rfl rfl rfl (fun a x W hout hin hP => ?_)) ?_
    · have e0 : a.tmps[0]? = some (.slice (some ⟨g, o, none⟩) (m + 8) cc) := (hout 0 (by kernel_rfl)).trans rfl
      exact does_move rfl e0 ⟨Same.refl _, rfl⟩
    refine alla_old rfl (step_mild 0 rfl rfl rfl (fun a x W hout hin hP => ?_)) ?_
    · have e21 := hin.is 0 21 (by kernel_rfl) (by decide) (by kernel_rfl) (by kernel_rfl) _ rfl
      clear hin hout
      intro K Q hK
      go_simp
      exact hK _ _ ⟨Same.refl _, rfl⟩
    refine alla_old rfl (step_mild 0 rfl rfl rfl (fun a x W hout hin hP => ?_)) ?_
    · have e22 := hin.is 1 22 (by kernel_rfl) (by decide) (by kernel_rfl) (by kernel_rfl) _ rfl
      have HS4 : Slice W (.slice (some ⟨g, o, none⟩) 4 cc) (q.take 4) := (hP.2.1.take 4).slice (by rw [List.length_take, HQL.out]; omega) (by have := HCC.out; omega)
      have C := refnum_any (q.take 4) _ W HS4 (by rw [List.length_take]; omega)
      rw [HI4.out] at C
      clear hP HS4
      clear hin hout
      intro K Q hK
      go_simp
      refine C.mono ?_
      rintro e W' ⟨rfl, rfl⟩
      exact hK _ _ ⟨Same.refl _, rfl⟩
    refine alla_old rfl (step_mild 0 rfl rfl rfl (fun a x W hout hin hP => ?_)) ?_
    · have e23 := hin.is 2 23 (by kernel_rfl) (by decide) (by kernel_rfl) (by kernel_rfl) _ rfl
      have hw := i64_wd i
      clear hin hout
      intro K Q hK
      go_simp
      exact hK _ _ ⟨Same.refl _, rfl⟩
    refine alla_old rfl (step_mild 0 rfl rfl rfl (fun a x W hout hin hP => ?_)) ?_
    · have e0 : a.tmps[0]? = some (.slice (some ⟨g, o, none⟩) (m + 8) cc) := (hout 0 (by kernel_rfl)).trans rfl
      exact does_move rfl e0 ⟨Same.refl _, rfl⟩
    refine alla_old rfl (step_mild 0 rfl rfl rfl (fun a x W hout hin hP => ?_)) ?_
    · have e25 := hin.is 4 25 (by kernel_rfl) (by decide) (by kernel_rfl) (by kernel_rfl) _ rfl
      clear hin hout
      intro K Q hK
      go_simp
      exact hK _ _ ⟨Same.refl _, rfl⟩
    refine alla_old rfl (step_mild 0 rfl rfl rfl (fun a x W hout hin hP => ?_)) ?_
    · have e26 := hin.is 5 26 (by kernel_rfl) (by decide) (by kernel_rfl) (by kernel_rfl) _ rfl
      have hc : W.cell? ⟨g, o + 4, none⟩ = some (.int .u8 (bd x4)) := HX4.out ▸ hP.2.1.get 4 (by rw [HQL.out]; omega)
      clear hP
      clear hin hout
      intro K Q hK
      go_simp
      exact hK _ _ ⟨Same.refl _, rfl⟩
    refine alla_old rfl (step_mild 0 rfl rfl rfl (fun a x W hout hin hP => ?_)) ?_
    · have e27 := hin.is 6 27 (by kernel_rfl) (by decide) (by kernel_rfl) (by kernel_rfl) _ rfl
      have hw := i64_bd x4
      clear hin hout
      intro K Q hK
      go_simp
      exact hK _ _ ⟨Same.refl _, rfl⟩
    refine alla_old rfl (step_mild 0 rfl rfl rfl (fun a x W hout hin hP => ?_)) ?_
    · have hbse := hP.2.2
      clear hP
      clear hin hout
      intro K Q hK
      go_simp
      exact hK _ _ ⟨Same.alloc _ _, _, rfl, own_base (own_empty W) hbse⟩
    refine alla_old rfl (step_mild 0 rfl rfl rfl (fun a x W hout hin hP => ?_)) ?_
    · have e0 : a.tmps[0]? = some (.slice (some ⟨g, o, none⟩) (m + 8) cc) := (hout 0 (by kernel_rfl)).trans rfl
      exact does_move rfl e0 ⟨Same.refl _, rfl⟩
    refine alla_old rfl (step_mild 0 rfl rfl rfl (fun a x W hout hin hP => ?_)) ?_
    · have e0 : a.tmps[0]? = some (.slice (some ⟨g, o, none⟩) (m + 8) cc) := (hout 0 (by kernel_rfl)).trans rfl
      exact does_move rfl e0 ⟨Same.refl _, rfl⟩
    refine alla_old rfl (step_mild 0 rfl rfl rfl (fun a x W hout hin hP => ?_)) ?_
    · have e31 := hin.is 10 31 (by kernel_rfl) (by decide) (by kernel_rfl) (by kernel_rfl) _ rfl
      clear hin hout
      intro K Q hK
      go_simp
      exact hK _ _ ⟨Same.refl _, rfl⟩
    refine alla_old rfl (step_mild 0 rfl rfl rfl (fun a x W hout hin hP => ?_)) ?_
    · have e32 := hin.is 11 32 (by kernel_rfl) (by decide) (by kernel_rfl) (by kernel_rfl) _ rfl
      have hw : IntKind.i64.wrap ((m : Int) + 8 - 2) = (m : Int) + 6 := by rw [show (m : Int) + 8 - 2 = (m : Int) + 6 by omega]; exact i64_id _ (by omega) (by have := HM.out; omega)
      clear hin hout
      intro K Q hK
      go_simp
      exact hK _ _ ⟨Same.refl _, rfl⟩
    refine alla_old rfl (step_mild 0 rfl rfl rfl (fun a x W hout hin hP => ?_)) ?_
    · have e30 := hin.is 9 30 (by kernel_rfl) (by decide) (by kernel_rfl) (by kernel_rfl) _ rfl
      have e33 := hin.is 12 33 (by kernel_rfl) (by decide) (by kernel_rfl) (by kernel_rfl) _ rfl
      clear hin hout
      intro K Q hK
      go_simp
      exact hK _ _ ⟨Same.refl _, rfl⟩
    refine alla_old rfl (step_mild 0 rfl rfl rfl (fun a x W hout hin hP => ?_)) ?_
    · obtain ⟨v29, e29, hv29⟩ := hin.get 8 29 (by kernel_rfl) (by decide) (by kernel_rfl) (.inr ⟨rfl, by kernel_rfl⟩)
      have e34 := hin.is 13 34 (by kernel_rfl) (by decide) (by kernel_rfl) (by kernel_rfl) _ rfl
      have HD6 : Slice W (.slice (some ⟨g, o + 6, none⟩) m (cc - 6)) d := HD.out ▸ ((hP.2.1.drop 6).take m).slice (by rw [HD.out]; exact HDL.out) (by have := HCC.out; omega)
      have hbse := hP.2.2
      obtain ⟨k, rfl, ho⟩ := hv29
      clear hin hout hP
      intro K Q hK
      refine wp_append_empty (.tmp 29) (.tmp 34) rfl B0 k (eval_of_get e29) ho ⟨g, o + 6, none⟩ m (cc - 6) d (eval_of_get e34) HD6 (by have := HM.out; omega) hbse ?_
      intro v' W' hO' hb'
      exact hK _ _ ⟨hb', hO'⟩
    refine alla_old rfl (step_mild 0 rfl rfl rfl (fun a x W hout hin hP => ?_)) ?_
    · have e24 := hin.is 3 24 (by kernel_rfl) (by decide) (by kernel_rfl) (by kernel_rfl) _ rfl
      have e28 := hin.is 7 28 (by kernel_rfl) (by decide) (by kernel_rfl) (by kernel_rfl) _ rfl
      obtain ⟨v35, e35, hv35⟩ := hin.get 14 35 (by kernel_rfl) (by decide) (by kernel_rfl) (.inr ⟨rfl, by kernel_rfl⟩)
      clear hin hout hP
      intro K Q hK
      refine wp_buildStruct 31 _ rfl places_rep [.int .i64 (wd i), .int .i64 (bd x4), v35] ?_ ?_ ?_ ?_
      · simp only [List.map_toArray, List.map_cons, List.map_nil, eval_of_get e24, eval_of_get e28, eval_of_get e35]; rfl
      · obtain ⟨A5, c5, rfl, _⟩ := own_slice_form hv35; rfl
      · obtain ⟨A5, c5, rfl, _⟩ := own_slice_form hv35; rfl
      · obtain ⟨A5, c5, rfl, _⟩ := own_slice_form hv35; exact hK _ _ ⟨Same.refl _, _, rfl, hv35⟩
    refine alla_old rfl (step_mild 0 rfl rfl rfl (fun a x W hout hin hP => ?_)) ?_
    · have hbse := hP.2.2
      clear hP hin hout
      intro K Q hK
      have hz : (Try.prog.info? 31).bind (·.zero) = some (.agg (repCells 0 0 (.slice none 0 0))) := zero_rep
      refine wp_new_row 31 (repCells 0 0 (.slice none 0 0)) rfl hz ?_
      exact hK _ _ ⟨Same.alloc _ _, _, rfl, Row.fresh _ _ _, hbse⟩
    refine alla_wild 0 rfl rfl rfl (fun a x W hout hin hP => ?_) ?_
    · obtain ⟨hw16, hx16⟩ := hin 16 (by kernel_rfl) (by decide)
      have hw16 := hw16 (.inr ⟨rfl, by kernel_rfl⟩)
      have hx16 := hx16 4 (by kernel_rfl)
      obtain ⟨v36, e36, hv36⟩ := hin.get 15 36 (by kernel_rfl) (by decide) (by kernel_rfl) (.inr ⟨rfl, by kernel_rfl⟩)
      obtain ⟨g6, hg6, r6, hb6⟩ := hw16
      obtain ⟨u, rfl, hu⟩ := hv36
      rw [hg6] at hx16
      clear hin hout
      intro K Q hK
      obtain ⟨A5, c5, rfl, _⟩ := own_slice_form hu
      refine wp_store_row 31 (.tmp 4) (.tmp 36) rfl g6 (repCells (wd i) (bd x4) (.slice A5 m c5)) (eval_of_get hx16) (eval_of_get e36) 31 (repCells 0 0 (.slice none 0 0)) r6 (by exact size_rep) rfl (one_rep _ _ _ _ _) ?_
      have hgr := grown_setRow W g6 (repCells (wd i) (bd x4) (.slice A5 m c5))
      exact hK (x 16) _ ⟨⟨hP.1.far hgr (Nat.le_trans HB0.out hb6) (fun b hb => by have := HLT.out b hb; omega), hP.2.1.far hgr (by have := HGB.out; omega), Nat.le_trans hP.2.2 hgr.size⟩, ⟨g6, _, hg6, r6.setRow _, hb6, own_chg hu ((Chg.refl (fun k => k = g6) W).grown hgr (fun k e => by cases e; exact .inl rfl)) (own_apart hu r6 (by decide))⟩, al_one rfl rfl⟩
    exact all_end (by decide)
  · intro x W hP hV hal
    obtain ⟨g6, u, h8, r6, hb6, hu⟩ := hV 17 (by decide) (.inr (by kernel_rfl))
    have h7 : x 16 = .pointer (some ⟨g6, 0, none⟩) := (hal 17 (by decide) 16 rfl).symm.trans h8
    have HS := hP.1
    have HBA := Lib.hid hP.2.1
    obtain ⟨A5, c5, rfl, _⟩ := own_slice_form hu
    have R6 := Lib.hid r6
    have HU := Lib.hid hu
    have HW0 : Hid (B0 ≤ W.heap.size) := Lib.hid hP.2.2
    clear hV hP hal h8 r6 hb6 hu
    simp only [putL, Act.put, List.setIfInBounds_toArray, List.set_cons_succ, List.set_cons_zero, h7]
    simp only [Nat.zero_add, Nat.reduceAdd]
    refine wpAnyH_done (by kernel_rfl) ?_ _
    clear h7
    have CE := refrep_bad (wd i) (bd x4) A5 m c5 W HMR.out
    go_wp2_with (first | ((with_reducible refine wpList_plain ?_ ?_); exact rfl; intro KK hKK; refine wp_load_row 31 (.tmp 4) rfl g6 rfl 31 (repCells (wd i) (bd x4) (.slice A5 m c5)) (0, 0) _ R6.out Try.underlying31 rfl (by exact size_rep) (hKK _ _ ?_); clear hKK KK))
    refine CE.mono ?_
    rintro e w5 ⟨rfl, hb5⟩
    have HSx := HS.same hb5
    clear HS hb5 R6 HU CE
    have HS := HSx
    clear HSx
    go_wp2_with (first | ((with_reducible refine wpList_plain ?_ ?_); exact rfl; intro KK hKK; refine wp_st_store HS 0 0 31 (.tmp 2) (.tmp 51) rfl rfl rfl (.agg (repCells 0 0 (.slice none 0 0))) rfl (by exact size_rep) (Nat.le_refl 3) (one_rep _ _ _ _ _) (repCells 0 0 (.slice none 0 0)) (spl_agg _ _ _ rfl rfl) (fun W41 HSx => hKK _ _ ?_); clear hKK KK HS; have HS : St w noF [⟨g2, 31, repCells 0 0 (.slice none 0 0)⟩] W41 := HSx; clear HSx))
    exact bodyPost_ret (v := .tuple #[.agg (repCells 0 0 (.slice none 0 0)), .int .i64 11]) (results_cell_tmp Try.results16 _ _ g2 31 (repCells 0 0 (.slice none 0 0)) (0, 0) _ rfl (HS.row 0 rfl) Try.underlying31 rfl (by exact size_rep)) rfl ⟨rfl, HS.below⟩
set_option maxRecDepth 20000 in
set_option maxHeartbeats 1600000 in
theorem refdec_rother (g o cc m : Nat) (q : List (BitVec 8)) (w : World) (hB : BAt w g o q) (hl : q.length = m + 8) (hc : m + 8 ≤ cc) (hm : m ≤ 999999990) (h5 : (m : Int) = bd (q.getD 5 0#8)) (hmr : mayR (rpI q) (rpE q) m = true) (hbq : ¬ (repB (rpI q) (rpE q) (rpD q) = q)) :
    Calls Try.prog 16 #[.slice (some ⟨g, o, none⟩) (m + 8) cc] w fun e w' => e = .returned (.tuple #[.agg (repCells 0 0 (.slice none 0 0)), .int .i64 11]) ∧ Below w.heap.size w w' := by
  have HBA0 := Lib.hid hB
  have HQL := Lib.hid hl
  have HCC := Lib.hid hc
  have HM := Lib.hid hm
  have k0 : ¬ cc = 0 := by omega
  have k6 : ¬ cc = 6 := by omega
  have l6 : 6 ≤ cc := by omega
  have l8 : ¬ (m : Int) + 8 < 8 := by omega
  have l4 : (4 : Int) < (m : Int) + 8 := by omega
  have l4n : 4 < m + 8 := by omega
  have l66 : (6 : Int) ≤ (m : Int) + 6 := by omega
  have lmc : (m : Int) + 6 ≤ (cc : Int) := by omega
  have lmn : m + 6 ≤ cc := by omega
  obtain ⟨x4, hx4⟩ : ∃ x, q.getD 4 0#8 = x := ⟨_, rfl⟩
  obtain ⟨i, hi⟩ : ∃ i, lv 0 q = i := ⟨_, rfl⟩
  have HI4 : Hid (num (q.take 4) = i) := Lib.hid (by rw [← hi, lv_num q 0 (by omega), List.drop_zero])
  obtain ⟨x5, hx5⟩ : ∃ x, q.getD 5 0#8 = x := ⟨_, rfl⟩
  have HX5 := Lib.hid hx5
  rw [hx5] at h5
  have l5 : (5 : Int) < (m : Int) + 8 := by omega
  have l5n : 5 < m + 8 := by omega
  have l4c : (4 : Int) ≤ (cc : Int) := by omega
  have l4cn : 4 ≤ cc := by omega
  have hw5 := i64_bd x5
  have hs5 : IntKind.i64.wrap (8 + bd x5) = (m : Int) + 8 := by rw [show 8 + bd x5 = (m : Int) + 8 by omega]; exact i64_id _ (by omega) (by omega)
  obtain ⟨d, hd⟩ : ∃ d, (q.drop 6).take m = d := ⟨_, rfl⟩
  have HX4 := Lib.hid hx4
  have HI := Lib.hid hi
  have HD := Lib.hid hd
  have HDL : Hid (d.length = m) := Lib.hid (by rw [← hd, List.length_take, List.length_drop, hl]; omega)
  have hri : rpI q = wd i := by unfold rpI; rw [hi]
  have hre : rpE q = bd x4 := by unfold rpE; rw [hx4]
  have hrd : rpD q = d := by unfold rpD; rw [hl]; exact hd
  rw [hri, hre] at hmr
  have HMR := Lib.hid hmr
  clear hmr
  rw [hri, hre, hrd] at hbq
  have HBQ := Lib.hid hbq
  clear hbq
  clear hB hl hc hm hx4 hx5 hi hd hri hre hrd h5
  have HS := St.nil w noF
  go_enter Try.func16, Try.ntmps16
  go_upto_region 1 with (first | ((with_reducible refine wpList_plain ?_ ?_); exact rfl; intro KK hKK; refine wp_st_alloc HS 31 (repCells 0 0 (.slice none 0 0)) rfl (.agg (repCells 0 0 (.slice none 0 0))) (by kernel_rfl) (rfl) (fun g2 W1 HSx => hKK _ _ ?_); clear hKK KK HS; have HS : St w noF [⟨g2, 31, repCells 0 0 (.slice none 0 0)⟩] W1 := HSx; clear HSx))
  have HS := HS
  obtain ⟨B0, hB0⟩ : ∃ B0, W1.heap.size = B0 := ⟨_, rfl⟩
  have HBA1 : BAt W1 g o q := HBA0.out.call HS.below
  have HB0 : Hid (w.heap.size ≤ B0) := Lib.hid (by rw [← hB0]; exact HS.below.size)
  have HLT : Hid (∀ b ∈ ([⟨g2, 31, repCells 0 0 (.slice none 0 0)⟩] : List Blk), b.g < B0) := Lib.hid (by rw [← hB0]; exact fun b hb => HS.lt hb)
  have HGB : Hid (g < B0) := Lib.hid (by rw [← hB0]; exact HBA1.lt)
  have HBB : Hid (B0 ≤ W1.heap.size) := Lib.hid (Nat.le_of_eq hB0.symm)
  clear hB0 HBA0
  have c5 : W1.cell? ⟨g, o + 5, none⟩ = some (.int .u8 (bd x5)) := HX5.out ▸ HBA1.get 5 (by rw [HQL.out]; omega)
  go_upto_region 3 with fail
  clear c5 hw5 hs5
  have hF0 : Wl [fun W => St w noF [⟨g2, 31, repCells 0 0 (.slice none 0 0)⟩] W ∧ BAt W g o q ∧ B0 ≤ W.heap.size, fun W => St w noF [⟨g2, 31, repCells 0 0 (.slice none 0 0)⟩] W ∧ BAt W g o q ∧ B0 ≤ W.heap.size] 0 W1.drew := ⟨HS.drew, HBA1.call (Below.refl _ _).drew, HBB.out⟩
  clear HS HBA1 HBB
  refine wp_region_phas [is (.slice (some ⟨g, o, none⟩) (m + 8) cc), is (.slice (some ⟨g, o, none⟩) 4 cc), is (.int .u32 (wd i)), is (.int .i64 (wd i)), is (.slice (some ⟨g, o, none⟩) (m + 8) cc), is (.pointer (some ⟨g, o + 4, none⟩)), is (.int .u8 (bd x4)), is (.int .i64 (bd x4)), (fun v W => ∃ k, v = Value.slice (some ⟨k, 0, none⟩) 0 0 ∧ W.ownsRow B0 5 1 v 0 []), is (.slice (some ⟨g, o, none⟩) (m + 8) cc), is (.slice (some ⟨g, o, none⟩) (m + 8) cc), is (.int .i64 ((m : Int) + 8)), is (.int .i64 ((m : Int) + 6)), is (.slice (some ⟨g, o + 6, none⟩) m (cc - 6)), (fun u W => W.ownsRow B0 5 1 u m (bytesV d)), (fun v W => ∃ u, v = Value.agg (repCells (wd i) (bd x4) u) ∧ W.ownsRow B0 5 1 u m (bytesV d)), (fun v W => ∃ k, v = Value.pointer (some ⟨k, 0, none⟩) ∧ Row W k 31 (repCells 0 0 (.slice none 0 0)) ∧ B0 ≤ k), (fun v W => ∃ k u, v = Value.pointer (some ⟨k, 0, none⟩) ∧ Row W k 31 (repCells (wd i) (bd x4) u) ∧ B0 ≤ k ∧ W.ownsRow B0 5 1 u m (bytesV d))] [true, true, true, true, true, true, true, true, false, true, true, true, true, true, false, false, false, false] [(fun W => St w noF [⟨g2, 31, repCells 0 0 (.slice none 0 0)⟩] W ∧ BAt W g o q ∧ B0 ≤ W.heap.size), (fun W => St w noF [⟨g2, 31, repCells 0 0 (.slice none 0 0)⟩] W ∧ BAt W g o q ∧ B0 ≤ W.heap.size)] [false, false, false, false, false, false, false, false, false, false, false, false, false, false, false, false, false, true] [some 0, some 0, some 0, some 0, some 0, some 0, some 0, some 0, some 0, some 0, some 0, some 0, some 0, some 0, some 0, some 0, some 0, some 0] [none, none, none, none, none, none, none, none, none, none, none, none, none, none, none, none, none, some 16] [some 21, some 22, some 23, some 24, some 25, some 26, some 27, some 28, some 29, some 30, some 31, some 32, some 33, some 34, some 35, some 36, some 4, none] 18 1 (fun _ => true) rfl rfl (by kernel_rfl) (by kernel_rfl) (by kernel_rfl) (by kernel_rfl) (by kernel_rfl) ?_ ?_ ?_ ?_ ?_ ?_
  · repeat first | exact wok_nil | refine wok_cons (by first | exact fun _ _ h k => ⟨h.1.same k, h.2.1.call k, Nat.le_trans h.2.2 k.size⟩) ?_
  · repeat first | exact vok_nil | refine vok_rig (by first | exact fun _ _ _ h => h) ?_ | refine vok_soft (by first | exact fun _ _ _ h _ => h | exact fun _ _ _ h k => owns_call h k | exact fun _ _ _ h k => ⟨h.choose, h.choose_spec.1, h.choose_spec.2.1.call k, h.choose_spec.2.2⟩ | exact fun _ _ _ h k => ⟨h.choose, h.choose_spec.1, owns_call h.choose_spec.2 k⟩ | exact fun _ _ _ h k => ⟨h.choose, h.choose_spec.choose, h.choose_spec.choose_spec.1, h.choose_spec.choose_spec.2.1.call k, h.choose_spec.choose_spec.2.2.1, owns_call h.choose_spec.choose_spec.2.2.2 k⟩) ?_
  · exact hF0
  · repeat first | exact all_end (by decide) | refine all_cons (by first | exact rfl | exact ⟨rfl, fun _ _ h => Or.inl h⟩ | exact ⟨rfl, fun _ _ h => Or.inr ⟨h, rfl⟩⟩) ?_
  · refine alla_old rfl (step_mild 0 rfl rfl rfl (fun a x W hout hin hP => ?_)) ?_
    · have e0 : a.tmps[0]? = some (.slice (some ⟨g, o, none⟩) (m + 8) cc) := (hout 0 (by kernel_rfl)).trans rfl
      exact does_move rfl e0 ⟨Same.refl _, rfl⟩
    refine alla_old rfl (step_mild 0 rfl rfl rfl (fun a x W hout hin hP => ?_)) ?_
    · have e21 := hin.is 0 21 (by kernel_rfl) (by decide) (by kernel_rfl) (by kernel_rfl) _ rfl
      clear hin hout
      intro K Q hK
      go_simp
      exact hK _ _ ⟨Same.refl _, rfl⟩
    refine alla_old rfl (step_mild 0 rfl rfl rfl (fun a x W hout hin hP => ?_)) ?_
    · have e22 := hin.is 1 22 (by kernel_rfl) (by decide) (by kernel_rfl) (by kernel_rfl) _ rfl
      have HS4 : Slice W (.slice (some ⟨g, o, none⟩) 4 cc) (q.take 4) := (hP.2.1.take 4).slice (by rw [List.length_take, HQL.out]; omega) (by have := HCC.out; omega)
      have C := refnum_any (q.take 4) _ W HS4 (by rw [List.length_take]; omega)
      rw [HI4.out] at C
      clear hP HS4
      clear hin hout
      intro K Q hK
      go_simp
      refine C.mono ?_
      rintro e W' ⟨rfl, rfl⟩
      exact hK _ _ ⟨Same.refl _, rfl⟩
    refine alla_old rfl (step_mild 0 rfl rfl rfl (fun a x W hout hin hP => ?_)) ?_
    · have e23 := hin.is 2 23 (by kernel_rfl) (by decide) (by kernel_rfl) (by kernel_rfl) _ rfl
      have hw := i64_wd i
      clear hin hout
      intro K Q hK
      go_simp
      exact hK _ _ ⟨Same.refl _, rfl⟩
    refine alla_old rfl (step_mild 0 rfl rfl rfl (fun a x W hout hin hP => ?_)) ?_
    · have e0 : a.tmps[0]? = some (.slice (some ⟨g, o, none⟩) (m + 8) cc) := (hout 0 (by kernel_rfl)).trans rfl
      exact does_move rfl e0 ⟨Same.refl _, rfl⟩
    refine alla_old rfl (step_mild 0 rfl rfl rfl (fun a x W hout hin hP => ?_)) ?_
    · have e25 := hin.is 4 25 (by kernel_rfl) (by decide) (by kernel_rfl) (by kernel_rfl) _ rfl
      clear hin hout
      intro K Q hK
      go_simp
      exact hK _ _ ⟨Same.refl _, rfl⟩
    refine alla_old rfl (step_mild 0 rfl rfl rfl (fun a x W hout hin hP => ?_)) ?_
    · have e26 := hin.is 5 26 (by kernel_rfl) (by decide) (by kernel_rfl) (by kernel_rfl) _ rfl
      have hc : W.cell? ⟨g, o + 4, none⟩ = some (.int .u8 (bd x4)) := HX4.out ▸ hP.2.1.get 4 (by rw [HQL.out]; omega)
      clear hP
      clear hin hout
      intro K Q hK
      go_simp
      exact hK _ _ ⟨Same.refl _, rfl⟩
    refine alla_old rfl (step_mild 0 rfl rfl rfl (fun a x W hout hin hP => ?_)) ?_
    · have e27 := hin.is 6 27 (by kernel_rfl) (by decide) (by kernel_rfl) (by kernel_rfl) _ rfl
      have hw := i64_bd x4
      clear hin hout
      intro K Q hK
      go_simp
      exact hK _ _ ⟨Same.refl _, rfl⟩
    refine alla_old rfl (step_mild 0 rfl rfl rfl (fun a x W hout hin hP => ?_)) ?_
    · have hbse := hP.2.2
      clear hP
      clear hin hout
      intro K Q hK
      go_simp
      exact hK _ _ ⟨Same.alloc _ _, _, rfl, own_base (own_empty W) hbse⟩
    refine alla_old rfl (step_mild 0 rfl rfl rfl (fun a x W hout hin hP => ?_)) ?_
    · have e0 : a.tmps[0]? = some (.slice (some ⟨g, o, none⟩) (m + 8) cc) := (hout 0 (by kernel_rfl)).trans rfl
      exact does_move rfl e0 ⟨Same.refl _, rfl⟩
    refine alla_old rfl (step_mild 0 rfl rfl rfl (fun a x W hout hin hP => ?_)) ?_
    · have e0 : a.tmps[0]? = some (.slice (some ⟨g, o, none⟩) (m + 8) cc) := (hout 0 (by kernel_rfl)).trans rfl
      exact does_move rfl e0 ⟨Same.refl _, rfl⟩
    refine alla_old rfl (step_mild 0 rfl rfl rfl (fun a x W hout hin hP => ?_)) ?_
    · have e31 := hin.is 10 31 (by kernel_rfl) (by decide) (by kernel_rfl) (by kernel_rfl) _ rfl
      clear hin hout
      intro K Q hK
      go_simp
      exact hK _ _ ⟨Same.refl _, rfl⟩
    refine alla_old rfl (step_mild 0 rfl rfl rfl (fun a x W hout hin hP => ?_)) ?_
    · have e32 := hin.is 11 32 (by kernel_rfl) (by decide) (by kernel_rfl) (by kernel_rfl) _ rfl
      have hw : IntKind.i64.wrap ((m : Int) + 8 - 2) = (m : Int) + 6 := by rw [show (m : Int) + 8 - 2 = (m : Int) + 6 by omega]; exact i64_id _ (by omega) (by have := HM.out; omega)
      clear hin hout
      intro K Q hK
      go_simp
      exact hK _ _ ⟨Same.refl _, rfl⟩
    refine alla_old rfl (step_mild 0 rfl rfl rfl (fun a x W hout hin hP => ?_)) ?_
    · have e30 := hin.is 9 30 (by kernel_rfl) (by decide) (by kernel_rfl) (by kernel_rfl) _ rfl
      have e33 := hin.is 12 33 (by kernel_rfl) (by decide) (by kernel_rfl) (by kernel_rfl) _ rfl
      clear hin hout
      intro K Q hK
      go_simp
      exact hK _ _ ⟨Same.refl _, rfl⟩
    refine alla_old rfl (step_mild 0 rfl rfl rfl (fun a x W hout hin hP => ?_)) ?_
    · obtain ⟨v29, e29, hv29⟩ := hin.get 8 29 (by kernel_rfl) (by decide) (by kernel_rfl) (.inr ⟨rfl, by kernel_rfl⟩)
      have e34 := hin.is 13 34 (by kernel_rfl) (by decide) (by kernel_rfl) (by kernel_rfl) _ rfl
      have HD6 : Slice W (.slice (some ⟨g, o + 6, none⟩) m (cc - 6)) d := HD.out ▸ ((hP.2.1.drop 6).take m).slice (by rw [HD.out]; exact HDL.out) (by have := HCC.out; omega)
      have hbse := hP.2.2
      obtain ⟨k, rfl, ho⟩ := hv29
      clear hin hout hP
      intro K Q hK
      refine wp_append_empty (.tmp 29) (.tmp 34) rfl B0 k (eval_of_get e29) ho ⟨g, o + 6, none⟩ m (cc - 6) d (eval_of_get e34) HD6 (by have := HM.out; omega) hbse ?_
      intro v' W' hO' hb'
      exact hK _ _ ⟨hb', hO'⟩
    refine alla_old rfl (step_mild 0 rfl rfl rfl (fun a x W hout hin hP => ?_)) ?_
    · have e24 := hin.is 3 24 (by kernel_rfl) (by decide) (by kernel_rfl) (by kernel_rfl) _ rfl
      have e28 := hin.is 7 28 (by kernel_rfl) (by decide) (by kernel_rfl) (by kernel_rfl) _ rfl
      obtain ⟨v35, e35, hv35⟩ := hin.get 14 35 (by kernel_rfl) (by decide) (by kernel_rfl) (.inr ⟨rfl, by kernel_rfl⟩)
      clear hin hout hP
      intro K Q hK
      refine wp_buildStruct 31 _ rfl places_rep [.int .i64 (wd i), .int .i64 (bd x4), v35] ?_ ?_ ?_ ?_
      · simp only [List.map_toArray, List.map_cons, List.map_nil, eval_of_get e24, eval_of_get e28, eval_of_get e35]; rfl
      · obtain ⟨A5, c5, rfl, _⟩ := own_slice_form hv35; rfl
      · obtain ⟨A5, c5, rfl, _⟩ := own_slice_form hv35; rfl
      · obtain ⟨A5, c5, rfl, _⟩ := own_slice_form hv35; exact hK _ _ ⟨Same.refl _, _, rfl, hv35⟩
    refine alla_old rfl (step_mild 0 rfl rfl rfl (fun a x W hout hin hP => ?_)) ?_
    · have hbse := hP.2.2
      clear hP hin hout
      intro K Q hK
      have hz : (Try.prog.info? 31).bind (·.zero) = some (.agg (repCells 0 0 (.slice none 0 0))) := zero_rep
      refine wp_new_row 31 (repCells 0 0 (.slice none 0 0)) rfl hz ?_
      exact hK _ _ ⟨Same.alloc _ _, _, rfl, Row.fresh _ _ _, hbse⟩
    refine alla_wild 0 rfl rfl rfl (fun a x W hout hin hP => ?_) ?_
    · obtain ⟨hw16, hx16⟩ := hin 16 (by kernel_rfl) (by decide)
      have hw16 := hw16 (.inr ⟨rfl, by kernel_rfl⟩)
      have hx16 := hx16 4 (by kernel_rfl)
      obtain ⟨v36, e36, hv36⟩ := hin.get 15 36 (by kernel_rfl) (by decide) (by kernel_rfl) (.inr ⟨rfl, by kernel_rfl⟩)
      obtain ⟨g6, hg6, r6, hb6⟩ := hw16
      obtain ⟨u, rfl, hu⟩ := hv36
      rw [hg6] at hx16
      clear hin hout
      intro K Q hK
      obtain ⟨A5, c5, rfl, _⟩ := own_slice_form hu
      refine wp_store_row 31 (.tmp 4) (.tmp 36) rfl g6 (repCells (wd i) (bd x4) (.slice A5 m c5)) (eval_of_get hx16) (eval_of_get e36) 31 (repCells 0 0 (.slice none 0 0)) r6 (by exact size_rep) rfl (one_rep _ _ _ _ _) ?_
      have hgr := grown_setRow W g6 (repCells (wd i) (bd x4) (.slice A5 m c5))
      exact hK (x 16) _ ⟨⟨hP.1.far hgr (Nat.le_trans HB0.out hb6) (fun b hb => by have := HLT.out b hb; omega), hP.2.1.far hgr (by have := HGB.out; omega), Nat.le_trans hP.2.2 hgr.size⟩, ⟨g6, _, hg6, r6.setRow _, hb6, own_chg hu ((Chg.refl (fun k => k = g6) W).grown hgr (fun k e => by cases e; exact .inl rfl)) (own_apart hu r6 (by decide))⟩, al_one rfl rfl⟩
    exact all_end (by decide)
  · intro x W hP hV hal
    obtain ⟨g6, u, h8, r6, hb6, hu⟩ := hV 17 (by decide) (.inr (by kernel_rfl))
    have h7 : x 16 = .pointer (some ⟨g6, 0, none⟩) := (hal 17 (by decide) 16 rfl).symm.trans h8
    have HS := hP.1
    have HBA := Lib.hid hP.2.1
    obtain ⟨A5, c5, rfl, _⟩ := own_slice_form hu
    have R6 := Lib.hid r6
    have HU := Lib.hid hu
    have HW0 : Hid (B0 ≤ W.heap.size) := Lib.hid hP.2.2
    clear hV hP hal h8 r6 hb6 hu
    simp only [putL, Act.put, List.setIfInBounds_toArray, List.set_cons_succ, List.set_cons_zero, h7]
    simp only [Nat.zero_add, Nat.reduceAdd]
    refine wpAnyH_done (by kernel_rfl) ?_ _
    clear h7
    have HSU : Hid (Slice W (.slice A5 m c5) d) := Lib.hid (by have h := HU.out; rw [← HDL.out] at h ⊢; exact own_slice h)
    have HNU := Lib.hid (own_nil HU.out)
    have CE := refrep_good (wd i) (bd x4) A5 m c5 d HDL.out W HSU.out (fun e => HNU.out m c5 (by rw [e])) HMR.out
    go_wp2_with (first | ((with_reducible refine wpList_plain ?_ ?_); exact rfl; intro KK hKK; refine wp_load_row 31 (.tmp 4) rfl g6 rfl 31 (repCells (wd i) (bd x4) (.slice A5 m c5)) (0, 0) _ R6.out Try.underlying31 rfl (by exact size_rep) (hKK _ _ ?_); clear hKK KK))
    refine CE.mono ?_
    rintro e w5 ⟨v5, rfl, ho5, hb5⟩
    have HSx := HS.same hb5
    have R6x := Lib.hid (R6.out.call hb5)
    have HUx := Lib.hid (owns_call HU.out hb5)
    have HIN := Lib.hid ((HBA.out.call hb5).slice HQL.out HCC.out)
    have HV5 := Lib.hid (own_slice ho5)
    have hc1 := conv_bytes HV5.out 9 Try.underlying9
    have hc2 := conv_bytes HIN.out 9 Try.underlying9
    obtain ⟨A6, c6, rfl, _⟩ := own_slice_form ho5
    have hd := str_cmp (repB (wd i) (bd x4) d) q
    clear HS hb5 R6 HU CE HSU HNU HBA ho5 HV5 HIN
    have HS := HSx
    have R6 := R6x
    have HU := HUx
    clear HSx R6x HUx
    rw [decide_eq_false HBQ.out] at hd
    obtain ⟨ln, hln⟩ : ∃ ln, (repB (wd i) (bd x4) d).length = ln := ⟨_, rfl⟩
    rw [hln] at hc1
    try rw [hln]
    clear hln
    generalize strB (repB (wd i) (bd x4) d) = s1 at *
    generalize strB q = s2 at *
    go_wp2_with (first | ((with_reducible refine wpList_plain ?_ ?_); exact rfl; intro KK hKK; refine wp_st_store HS 0 0 31 (.tmp 2) (.tmp 51) rfl rfl rfl (.agg (repCells 0 0 (.slice none 0 0))) rfl (by exact size_rep) (Nat.le_refl 3) (one_rep _ _ _ _ _) (repCells 0 0 (.slice none 0 0)) (spl_agg _ _ _ rfl rfl) (fun W41 HSx => hKK _ _ ?_); clear hKK KK HS; have HS : St w noF [⟨g2, 31, repCells 0 0 (.slice none 0 0)⟩] W41 := HSx; clear HSx))
    exact bodyPost_ret (v := .tuple #[.agg (repCells 0 0 (.slice none 0 0)), .int .i64 11]) (results_cell_tmp Try.results16 _ _ g2 31 (repCells 0 0 (.slice none 0 0)) (0, 0) _ rfl (HS.row 0 rfl) Try.underlying31 rfl (by exact size_rep)) rfl ⟨rfl, HS.below⟩
set_option maxRecDepth 20000 in
set_option maxHeartbeats 1600000 in
theorem refdec_rgood (g o cc m : Nat) (q : List (BitVec 8)) (w : World) (hB : BAt w g o q) (hl : q.length = m + 8) (hc : m + 8 ≤ cc) (hm : m ≤ 999999990) (h5 : (m : Int) = bd (q.getD 5 0#8)) (hmr : mayR (rpI q) (rpE q) m = true) (hbq : (repB (rpI q) (rpE q) (rpD q) = q)) :
    Calls Try.prog 16 #[.slice (some ⟨g, o, none⟩) (m + 8) cc] w fun e w' => ∃ v, e = .returned (.tuple #[.agg (repCells (rpI q) (rpE q) v), .int .i64 0]) ∧ w'.ownsRow w.heap.size 5 1 v m (bytesV (rpD q)) ∧ Below w.heap.size w w' := by
  have HBA0 := Lib.hid hB
  have HQL := Lib.hid hl
  have HCC := Lib.hid hc
  have HM := Lib.hid hm
  have k0 : ¬ cc = 0 := by omega
  have k6 : ¬ cc = 6 := by omega
  have l6 : 6 ≤ cc := by omega
  have l8 : ¬ (m : Int) + 8 < 8 := by omega
  have l4 : (4 : Int) < (m : Int) + 8 := by omega
  have l4n : 4 < m + 8 := by omega
  have l66 : (6 : Int) ≤ (m : Int) + 6 := by omega
  have lmc : (m : Int) + 6 ≤ (cc : Int) := by omega
  have lmn : m + 6 ≤ cc := by omega
  obtain ⟨x4, hx4⟩ : ∃ x, q.getD 4 0#8 = x := ⟨_, rfl⟩
  obtain ⟨i, hi⟩ : ∃ i, lv 0 q = i := ⟨_, rfl⟩
  have HI4 : Hid (num (q.take 4) = i) := Lib.hid (by rw [← hi, lv_num q 0 (by omega), List.drop_zero])
  obtain ⟨x5, hx5⟩ : ∃ x, q.getD 5 0#8 = x := ⟨_, rfl⟩
  have HX5 := Lib.hid hx5
  rw [hx5] at h5
  have l5 : (5 : Int) < (m : Int) + 8 := by omega
  have l5n : 5 < m + 8 := by omega
  have l4c : (4 : Int) ≤ (cc : Int) := by omega
  have l4cn : 4 ≤ cc := by omega
  have hw5 := i64_bd x5
  have hs5 : IntKind.i64.wrap (8 + bd x5) = (m : Int) + 8 := by rw [show 8 + bd x5 = (m : Int) + 8 by omega]; exact i64_id _ (by omega) (by omega)
  obtain ⟨d, hd⟩ : ∃ d, (q.drop 6).take m = d := ⟨_, rfl⟩
  have HX4 := Lib.hid hx4
  have HI := Lib.hid hi
  have HD := Lib.hid hd
  have HDL : Hid (d.length = m) := Lib.hid (by rw [← hd, List.length_take, List.length_drop, hl]; omega)
  have hri : rpI q = wd i := by unfold rpI; rw [hi]
  have hre : rpE q = bd x4 := by unfold rpE; rw [hx4]
  have hrd : rpD q = d := by unfold rpD; rw [hl]; exact hd
  rw [hri, hre, hrd]
  rw [hri, hre] at hmr
  have HMR := Lib.hid hmr
  clear hmr
  rw [hri, hre, hrd] at hbq
  have HBQ := Lib.hid hbq
  clear hbq
  clear hB hl hc hm hx4 hx5 hi hd hri hre hrd h5
  have HS := St.nil w noF
  go_enter Try.func16, Try.ntmps16
  go_upto_region 1 with (first | ((with_reducible refine wpList_plain ?_ ?_); exact rfl; intro KK hKK; refine wp_st_alloc HS 31 (repCells 0 0 (.slice none 0 0)) rfl (.agg (repCells 0 0 (.slice none 0 0))) (by kernel_rfl) (rfl) (fun g2 W1 HSx => hKK _ _ ?_); clear hKK KK HS; have HS : St w noF [⟨g2, 31, repCells 0 0 (.slice none 0 0)⟩] W1 := HSx; clear HSx))
  have HS := HS
  obtain ⟨B0, hB0⟩ : ∃ B0, W1.heap.size = B0 := ⟨_, rfl⟩
  have HBA1 : BAt W1 g o q := HBA0.out.call HS.below
  have HB0 : Hid (w.heap.size ≤ B0) := Lib.hid (by rw [← hB0]; exact HS.below.size)
  have HLT : Hid (∀ b ∈ ([⟨g2, 31, repCells 0 0 (.slice none 0 0)⟩] : List Blk), b.g < B0) := Lib.hid (by rw [← hB0]; exact fun b hb => HS.lt hb)
  have HGB : Hid (g < B0) := Lib.hid (by rw [← hB0]; exact HBA1.lt)
  have HBB : Hid (B0 ≤ W1.heap.size) := Lib.hid (Nat.le_of_eq hB0.symm)
  clear hB0 HBA0
  have c5 : W1.cell? ⟨g, o + 5, none⟩ = some (.int .u8 (bd x5)) := HX5.out ▸ HBA1.get 5 (by rw [HQL.out]; omega)
  go_upto_region 3 with fail
  clear c5 hw5 hs5
  have hF0 : Wl [fun W => St w noF [⟨g2, 31, repCells 0 0 (.slice none 0 0)⟩] W ∧ BAt W g o q ∧ B0 ≤ W.heap.size, fun W => St w noF [⟨g2, 31, repCells 0 0 (.slice none 0 0)⟩] W ∧ BAt W g o q ∧ B0 ≤ W.heap.size] 0 W1.drew := ⟨HS.drew, HBA1.call (Below.refl _ _).drew, HBB.out⟩
  clear HS HBA1 HBB
  refine wp_region_phas [is (.slice (some ⟨g, o, none⟩) (m + 8) cc), is (.slice (some ⟨g, o, none⟩) 4 cc), is (.int .u32 (wd i)), is (.int .i64 (wd i)), is (.slice (some ⟨g, o, none⟩) (m + 8) cc), is (.pointer (some ⟨g, o + 4, none⟩)), is (.int .u8 (bd x4)), is (.int .i64 (bd x4)), (fun v W => ∃ k, v = Value.slice (some ⟨k, 0, none⟩) 0 0 ∧ W.ownsRow B0 5 1 v 0 []), is (.slice (some ⟨g, o, none⟩) (m + 8) cc), is (.slice (some ⟨g, o, none⟩) (m + 8) cc), is (.int .i64 ((m : Int) + 8)), is (.int .i64 ((m : Int) + 6)), is (.slice (some ⟨g, o + 6, none⟩) m (cc - 6)), (fun u W => W.ownsRow B0 5 1 u m (bytesV d)), (fun v W => ∃ u, v = Value.agg (repCells (wd i) (bd x4) u) ∧ W.ownsRow B0 5 1 u m (bytesV d)), (fun v W => ∃ k, v = Value.pointer (some ⟨k, 0, none⟩) ∧ Row W k 31 (repCells 0 0 (.slice none 0 0)) ∧ B0 ≤ k), (fun v W => ∃ k u, v = Value.pointer (some ⟨k, 0, none⟩) ∧ Row W k 31 (repCells (wd i) (bd x4) u) ∧ B0 ≤ k ∧ W.ownsRow B0 5 1 u m (bytesV d))] [true, true, true, true, true, true, true, true, false, true, true, true, true, true, false, false, false, false] [(fun W => St w noF [⟨g2, 31, repCells 0 0 (.slice none 0 0)⟩] W ∧ BAt W g o q ∧ B0 ≤ W.heap.size), (fun W => St w noF [⟨g2, 31, repCells 0 0 (.slice none 0 0)⟩] W ∧ BAt W g o q ∧ B0 ≤ W.heap.size)] [false, false, false, false, false, false, false, false, false, false, false, false, false, false, false, false, false, true] [some 0, some 0, some 0, some 0, some 0, some 0, some 0, some 0, some 0, some 0, some 0, some 0, some 0, some 0, some 0, some 0, some 0, some 0] [none, none, none, none, none, none, none, none, none, none, none, none, none, none, none, none, none, some 16] [some 21, some 22, some 23, some 24, some 25, some 26, some 27, some 28, some 29, some 30, some 31, some 32, some 33, some 34, some 35, some 36, some 4, none] 18 1 (fun _ => true) rfl rfl (by kernel_rfl) (by kernel_rfl) (by kernel_rfl) (by kernel_rfl) (by kernel_rfl) ?_ ?_ ?_ ?_ ?_ ?_
  · repeat first | exact wok_nil | refine wok_cons (by first | exact fun _ _ h k => ⟨h.1.same k, h.2.1.call k, Nat.le_trans h.2.2 k.size⟩) ?_
  · repeat first | exact vok_nil | refine vok_rig (by first | exact fun _ _ _ h => h) ?_ | refine vok_soft (by first | exact fun _ _ _ h _ => h | exact fun _ _ _ h k => owns_call h k | exact fun _ _ _ h k => ⟨h.choose, h.choose_spec.1, h.choose_spec.2.1.call k, h.choose_spec.2.2⟩ | exact fun _ _ _ h k => ⟨h.choose, h.choose_spec.1, owns_call h.choose_spec.2 k⟩ | exact fun _ _ _ h k => ⟨h.choose, h.choose_spec.choose, h.choose_spec.choose_spec.1, h.choose_spec.choose_spec.2.1.call k, h.choose_spec.choose_spec.2.2.1, owns_call h.choose_spec.choose_spec.2.2.2 k⟩) ?_
  · exact hF0
  · repeat first | exact all_end (by decide) | refine all_cons (by first | exact rfl | exact ⟨rfl, fun _ _ h => Or.inl h⟩ | exact ⟨rfl, fun _ _ h => Or.inr ⟨h, rfl⟩⟩) ?_
  · refine alla_old rfl (step_mild 0 rfl rfl rfl (fun a x W hout hin hP => ?_)) ?_
    · have e0 : a.tmps[0]? = some (.slice (some ⟨g, o, none⟩) (m + 8) cc) := (hout 0 (by kernel_rfl)).trans rfl
      exact does_move rfl e0 ⟨Same.refl _, rfl⟩
    refine alla_old rfl (step_mild 0 rfl rfl rfl (fun a x W hout hin hP => ?_)) ?_
    · have e21 := hin.is 0 21 (by kernel_rfl) (by decide) (by kernel_rfl) (by kernel_rfl) _ rfl
      clear hin hout
      intro K Q hK
      go_simp
      exact hK _ _ ⟨Same.refl _, rfl⟩
    refine alla_old rfl (step_mild 0 rfl rfl rfl (fun a x W hout hin hP => ?_)) ?_
    · have e22 := hin.is 1 22 (by kernel_rfl) (by decide) (by kernel_rfl) (by kernel_rfl) _ rfl
      have HS4 : Slice W (.slice (some ⟨g, o, none⟩) 4 cc) (q.take 4) := (hP.2.1.take 4).slice (by rw [List.length_take, HQL.out]; omega) (by have := HCC.out; omega)
      have C := refnum_any (q.take 4) _ W HS4 (by rw [List.length_take]; omega)
      rw [HI4.out] at C
      clear hP HS4
      clear hin hout
      intro K Q hK
      go_simp
      refine C.mono ?_
      rintro e W' ⟨rfl, rfl⟩
      exact hK _ _ ⟨Same.refl _, rfl⟩
    refine alla_old rfl (step_mild 0 rfl rfl rfl (fun a x W hout hin hP => ?_)) ?_
    · have e23 := hin.is 2 23 (by kernel_rfl) (by decide) (by kernel_rfl) (by kernel_rfl) _ rfl
      have hw := i64_wd i
      clear hin hout
      intro K Q hK
      go_simp
      exact hK _ _ ⟨Same.refl _, rfl⟩
    refine alla_old rfl (step_mild 0 rfl rfl rfl (fun a x W hout hin hP => ?_)) ?_
    · have e0 : a.tmps[0]? = some (.slice (some ⟨g, o, none⟩) (m + 8) cc) := (hout 0 (by kernel_rfl)).trans rfl
      exact does_move rfl e0 ⟨Same.refl _, rfl⟩
    refine alla_old rfl (step_mild 0 rfl rfl rfl (fun a x W hout hin hP => ?_)) ?_
    · have e25 := hin.is 4 25 (by kernel_rfl) (by decide) (by kernel_rfl) (by kernel_rfl) _ rfl
      clear hin hout
      intro K Q hK
      go_simp
      exact hK _ _ ⟨Same.refl _, rfl⟩
    refine alla_old rfl (step_mild 0 rfl rfl rfl (fun a x W hout hin hP => ?_)) ?_
    · have e26 := hin.is 5 26 (by kernel_rfl) (by decide) (by kernel_rfl) (by kernel_rfl) _ rfl
      have hc : W.cell? ⟨g, o + 4, none⟩ = some (.int .u8 (bd x4)) := HX4.out ▸ hP.2.1.get 4 (by rw [HQL.out]; omega)
      clear hP
      clear hin hout
      intro K Q hK
      go_simp
      exact hK _ _ ⟨Same.refl _, rfl⟩
    refine alla_old rfl (step_mild 0 rfl rfl rfl (fun a x W hout hin hP => ?_)) ?_
    · have e27 := hin.is 6 27 (by kernel_rfl) (by decide) (by kernel_rfl) (by kernel_rfl) _ rfl
      have hw := i64_bd x4
      clear hin hout
      intro K Q hK
      go_simp
      exact hK _ _ ⟨Same.refl _, rfl⟩
    refine alla_old rfl (step_mild 0 rfl rfl rfl (fun a x W hout hin hP => ?_)) ?_
    · have hbse := hP.2.2
      clear hP
      clear hin hout
      intro K Q hK
      go_simp
      exact hK _ _ ⟨Same.alloc _ _, _, rfl, own_base (own_empty W) hbse⟩
    refine alla_old rfl (step_mild 0 rfl rfl rfl (fun a x W hout hin hP => ?_)) ?_
    · have e0 : a.tmps[0]? = some (.slice (some ⟨g, o, none⟩) (m + 8) cc) := (hout 0 (by kernel_rfl)).trans rfl
      exact does_move rfl e0 ⟨Same.refl _, rfl⟩
    refine alla_old rfl (step_mild 0 rfl rfl rfl (fun a x W hout hin hP => ?_)) ?_
    · have e0 : a.tmps[0]? = some (.slice (some ⟨g, o, none⟩) (m + 8) cc) := (hout 0 (by kernel_rfl)).trans rfl
      exact does_move rfl e0 ⟨Same.refl _, rfl⟩
    refine alla_old rfl (step_mild 0 rfl rfl rfl (fun a x W hout hin hP => ?_)) ?_
    · have e31 := hin.is 10 31 (by kernel_rfl) (by decide) (by kernel_rfl) (by kernel_rfl) _ rfl
      clear hin hout
      intro K Q hK
      go_simp
      exact hK _ _ ⟨Same.refl _, rfl⟩
    refine alla_old rfl (step_mild 0 rfl rfl rfl (fun a x W hout hin hP => ?_)) ?_
    · have e32 := hin.is 11 32 (by kernel_rfl) (by decide) (by kernel_rfl) (by kernel_rfl) _ rfl
      have hw : IntKind.i64.wrap ((m : Int) + 8 - 2) = (m : Int) + 6 := by rw [show (m : Int) + 8 - 2 = (m : Int) + 6 by omega]; exact i64_id _ (by omega) (by have := HM.out; omega)
      clear hin hout
      intro K Q hK
      go_simp
      exact hK _ _ ⟨Same.refl _, rfl⟩
    refine alla_old rfl (step_mild 0 rfl rfl rfl (fun a x W hout hin hP => ?_)) ?_
    · have e30 := hin.is 9 30 (by kernel_rfl) (by decide) (by kernel_rfl) (by kernel_rfl) _ rfl
      have e33 := hin.is 12 33 (by kernel_rfl) (by decide) (by kernel_rfl) (by kernel_rfl) _ rfl
      clear hin hout
      intro K Q hK
      go_simp
      exact hK _ _ ⟨Same.refl _, rfl⟩
    refine alla_old rfl (step_mild 0 rfl rfl rfl (fun a x W hout hin hP => ?_)) ?_
    · obtain ⟨v29, e29, hv29⟩ := hin.get 8 29 (by kernel_rfl) (by decide) (by kernel_rfl) (.inr ⟨rfl, by kernel_rfl⟩)
      have e34 := hin.is 13 34 (by kernel_rfl) (by decide) (by kernel_rfl) (by kernel_rfl) _ rfl
      have HD6 : Slice W (.slice (some ⟨g, o + 6, none⟩) m (cc - 6)) d := HD.out ▸ ((hP.2.1.drop 6).take m).slice (by rw [HD.out]; exact HDL.out) (by have := HCC.out; omega)
      have hbse := hP.2.2
      obtain ⟨k, rfl, ho⟩ := hv29
      clear hin hout hP
      intro K Q hK
      refine wp_append_empty (.tmp 29) (.tmp 34) rfl B0 k (eval_of_get e29) ho ⟨g, o + 6, none⟩ m (cc - 6) d (eval_of_get e34) HD6 (by have := HM.out; omega) hbse ?_
      intro v' W' hO' hb'
      exact hK _ _ ⟨hb', hO'⟩
    refine alla_old rfl (step_mild 0 rfl rfl rfl (fun a x W hout hin hP => ?_)) ?_
    · have e24 := hin.is 3 24 (by kernel_rfl) (by decide) (by kernel_rfl) (by kernel_rfl) _ rfl
      have e28 := hin.is 7 28 (by kernel_rfl) (by decide) (by kernel_rfl) (by kernel_rfl) _ rfl
      obtain ⟨v35, e35, hv35⟩ := hin.get 14 35 (by kernel_rfl) (by decide) (by kernel_rfl) (.inr ⟨rfl, by kernel_rfl⟩)
      clear hin hout hP
      intro K Q hK
      refine wp_buildStruct 31 _ rfl places_rep [.int .i64 (wd i), .int .i64 (bd x4), v35] ?_ ?_ ?_ ?_
      · simp only [List.map_toArray, List.map_cons, List.map_nil, eval_of_get e24, eval_of_get e28, eval_of_get e35]; rfl
      · obtain ⟨A5, c5, rfl, _⟩ := own_slice_form hv35; rfl
      · obtain ⟨A5, c5, rfl, _⟩ := own_slice_form hv35; rfl
      · obtain ⟨A5, c5, rfl, _⟩ := own_slice_form hv35; exact hK _ _ ⟨Same.refl _, _, rfl, hv35⟩
    refine alla_old rfl (step_mild 0 rfl rfl rfl (fun a x W hout hin hP => ?_)) ?_
    · have hbse := hP.2.2
      clear hP hin hout
      intro K Q hK
      have hz : (Try.prog.info? 31).bind (·.zero) = some (.agg (repCells 0 0 (.slice none 0 0))) := zero_rep
      refine wp_new_row 31 (repCells 0 0 (.slice none 0 0)) rfl hz ?_
      exact hK _ _ ⟨Same.alloc _ _, _, rfl, Row.fresh _ _ _, hbse⟩
    refine alla_wild 0 rfl rfl rfl (fun a x W hout hin hP => ?_) ?_
    · obtain ⟨hw16, hx16⟩ := hin 16 (by kernel_rfl) (by decide)
      have hw16 := hw16 (.inr ⟨rfl, by kernel_rfl⟩)
      have hx16 := hx16 4 (by kernel_rfl)
      obtain ⟨v36, e36, hv36⟩ := hin.get 15 36 (by kernel_rfl) (by decide) (by kernel_rfl) (.inr ⟨rfl, by kernel_rfl⟩)
      obtain ⟨g6, hg6, r6, hb6⟩ := hw16
      obtain ⟨u, rfl, hu⟩ := hv36
      rw [hg6] at hx16
      clear hin hout
      intro K Q hK
      obtain ⟨A5, c5, rfl, _⟩ := own_slice_form hu
      refine wp_store_row 31 (.tmp 4) (.tmp 36) rfl g6 (repCells (wd i) (bd x4) (.slice A5 m c5)) (eval_of_get hx16) (eval_of_get e36) 31 (repCells 0 0 (.slice none 0 0)) r6 (by exact size_rep) rfl (one_rep _ _ _ _ _) ?_
      have hgr := grown_setRow W g6 (repCells (wd i) (bd x4) (.slice A5 m c5))
      exact hK (x 16) _ ⟨⟨hP.1.far hgr (Nat.le_trans HB0.out hb6) (fun b hb => by have := HLT.out b hb; omega), hP.2.1.far hgr (by have := HGB.out; omega), Nat.le_trans hP.2.2 hgr.size⟩, ⟨g6, _, hg6, r6.setRow _, hb6, own_chg hu ((Chg.refl (fun k => k = g6) W).grown hgr (fun k e => by cases e; exact .inl rfl)) (own_apart hu r6 (by decide))⟩, al_one rfl rfl⟩
    exact all_end (by decide)
  · intro x W hP hV hal
    obtain ⟨g6, u, h8, r6, hb6, hu⟩ := hV 17 (by decide) (.inr (by kernel_rfl))
    have h7 : x 16 = .pointer (some ⟨g6, 0, none⟩) := (hal 17 (by decide) 16 rfl).symm.trans h8
    have HS := hP.1
    have HBA := Lib.hid hP.2.1
    obtain ⟨A5, c5, rfl, _⟩ := own_slice_form hu
    have R6 := Lib.hid r6
    have HU := Lib.hid hu
    have HW0 : Hid (B0 ≤ W.heap.size) := Lib.hid hP.2.2
    clear hV hP hal h8 r6 hb6 hu
    simp only [putL, Act.put, List.setIfInBounds_toArray, List.set_cons_succ, List.set_cons_zero, h7]
    simp only [Nat.zero_add, Nat.reduceAdd]
    refine wpAnyH_done (by kernel_rfl) ?_ _
    clear h7
    have HSU : Hid (Slice W (.slice A5 m c5) d) := Lib.hid (by have h := HU.out; rw [← HDL.out] at h ⊢; exact own_slice h)
    have HNU := Lib.hid (own_nil HU.out)
    have CE := refrep_good (wd i) (bd x4) A5 m c5 d HDL.out W HSU.out (fun e => HNU.out m c5 (by rw [e])) HMR.out
    go_wp2_with (first | ((with_reducible refine wpList_plain ?_ ?_); exact rfl; intro KK hKK; refine wp_load_row 31 (.tmp 4) rfl g6 rfl 31 (repCells (wd i) (bd x4) (.slice A5 m c5)) (0, 0) _ R6.out Try.underlying31 rfl (by exact size_rep) (hKK _ _ ?_); clear hKK KK))
    refine CE.mono ?_
    rintro e w5 ⟨v5, rfl, ho5, hb5⟩
    have HSx := HS.same hb5
    have R6x := Lib.hid (R6.out.call hb5)
    have HUx := Lib.hid (owns_call HU.out hb5)
    have HIN := Lib.hid ((HBA.out.call hb5).slice HQL.out HCC.out)
    have HV5 := Lib.hid (own_slice ho5)
    have hc1 := conv_bytes HV5.out 9 Try.underlying9
    have hc2 := conv_bytes HIN.out 9 Try.underlying9
    obtain ⟨A6, c6, rfl, _⟩ := own_slice_form ho5
    have hd := str_cmp (repB (wd i) (bd x4) d) q
    clear HS hb5 R6 HU CE HSU HNU HBA ho5 HV5 HIN
    have HS := HSx
    have R6 := R6x
    have HU := HUx
    clear HSx R6x HUx
    rw [decide_eq_true HBQ.out] at hd
    obtain ⟨ln, hln⟩ : ∃ ln, (repB (wd i) (bd x4) d).length = ln := ⟨_, rfl⟩
    rw [hln] at hc1
    try rw [hln]
    clear hln
    generalize strB (repB (wd i) (bd x4) d) = s1 at *
    generalize strB q = s2 at *
    go_wp2_with (first | ((with_reducible refine wpList_plain ?_ ?_); exact rfl; intro KK hKK; refine wp_load_row 31 (.tmp 4) rfl g6 rfl 31 (repCells (wd i) (bd x4) (.slice A5 m c5)) (0, 0) _ R6.out Try.underlying31 rfl (by exact size_rep) (hKK _ _ ?_); clear hKK KK) | ((with_reducible refine wpList_plain ?_ ?_); exact rfl; intro KK hKK; refine wp_store_row 31 (.tmp 2) (.tmp 52) rfl g2 (repCells (wd i) (bd x4) (.slice A5 m c5)) rfl rfl 31 (repCells 0 0 (.slice none 0 0)) (HS.row 0 rfl) (by exact size_rep) rfl (one_rep _ _ _ _ _) (hKK _ _ ?_); clear hKK KK; have hgr := grown_setRow w5 g2 (repCells (wd i) (bd x4) (.slice A5 m c5)); have HU2 := Lib.hid (own_chg HU.out ((Chg.refl (fun k => k = g2) w5).grown hgr (fun k e => by cases e; exact .inl rfl)) (own_apart (t := 31) HU.out (HS.row 0 rfl) (by decide))); have R2 := Lib.hid ((HS.row 0 rfl).setRow (repCells (wd i) (bd x4) (.slice A5 m c5))); have HB2 := Lib.hid (HS.below.trans (below_only hgr (by rcases HS.own 0 _ rfl with h | h; exact (show False from h).elim; exact h) HS.below.size)); clear hgr HS HU R6))
    exact bodyPost_ret (v := .tuple #[.agg (repCells (wd i) (bd x4) (.slice A5 m c5)), .int .i64 0]) (results_cell_tmp Try.results16 _ _ g2 31 (repCells (wd i) (bd x4) (.slice A5 m c5)) (0, 0) _ rfl R2.out Try.underlying31 rfl (by exact size_rep)) rfl ⟨_, rfl, own_base HU2.out HB0.out, HB2.out⟩
end Go.Proofs.Ytamofhjnpahamaa

/- A reply's bytes with one byte turned, or one fewer. No function of the program is named here. -/
set_option maxRecDepth 4000
namespace Go.Proofs.Ytamofhjnpahamaa
open Go Go.RowKit
theorem rp_crc {q : List (BitVec 8)} (h : rpOk q = true) : crcMore 0xffff#16 q = 0xf0b8#16 := by
  obtain ⟨_, _, e⟩ := rp_of h
  rw [← e]
  exact crc_full (repH (rpI q) (rpE q) (rpD q))
theorem crc_at (q : List (BitVec 8)) (k : Nat) (hk : k + 1 < q.length) (u v : BitVec 8) (c : BitVec 16) : crcMore c q = crcMore c (turnedAt q k u v) ↔ u = 0#8 ∧ v = 0#8 := by
  rw [turned_split q k hk u v]
  conv => lhs; lhs; rw [split_at q k hk]
  exact crc_turned _ _ _ _ u v c
theorem rp_turn2 {q : List (BitVec 8)} (h : rpOk q = true) (k : Nat) (hk : k + 1 < q.length) (u v : BitVec 8) : rpOk (turnedAt q k u v) = decide (u = 0#8 ∧ v = 0#8) := by
  by_cases hz : u = 0#8 ∧ v = 0#8
  · rw [decide_eq_true hz]
    obtain ⟨rfl, rfl⟩ := hz
    rw [turned_id q k hk]; exact h
  · rw [decide_eq_false hz]
    cases ho : rpOk (turnedAt q k u v) with
    | false => rfl
    | true => exact (hz ((crc_at q k hk u v _).1 ((rp_crc h).trans (rp_crc ho).symm))).elim
theorem rp_turn {q : List (BitVec 8)} (h : rpOk q = true) (k : Nat) (hk : k < q.length) (y : BitVec 8) : rpOk (q.set k (q.getD k 0#8 ^^^ y)) = decide (y = 0#8) := by
  have h8 := (rp_of h).1
  by_cases h1 : k + 1 < q.length
  · have e : q.set k (q.getD k 0#8 ^^^ y) = turnedAt q k y 0#8 := by
      rw [turned_split q k h1]
      conv => lhs; rw [List.set_eq_take_append_cons_drop, if_pos hk]
      rw [BitVec.xor_zero]
      congr 1
      congr 1
      rw [List.drop_eq_getElem_cons h1, List.getD_eq_getElem?_getD, List.getElem?_eq_getElem h1]
      rfl
    rw [e, rp_turn2 h k h1]
    by_cases hy : y = 0#8 <;> simp [hy]
  · obtain ⟨j, rfl⟩ : ∃ j, k = j + 1 := ⟨k - 1, by omega⟩
    have e : q.set (j + 1) (q.getD (j + 1) 0#8 ^^^ y) = turnedAt q j 0#8 y := by
      rw [turned_split q j hk]
      conv => lhs; rw [List.set_eq_take_append_cons_drop, if_pos hk]
      rw [BitVec.xor_zero, show j + 1 + 1 = j + 2 from rfl, List.take_succ_eq_append_getElem (by omega : j < q.length), List.append_assoc]
      congr 1
      rw [show q.getD j 0#8 = q[j] by rw [List.getD_eq_getElem?_getD, List.getElem?_eq_getElem (by omega : j < q.length)]; rfl]
      rfl
    rw [e, rp_turn2 h j hk]
    by_cases hy : y = 0#8 <;> simp [hy]
theorem rp_len {q : List (BitVec 8)} (h : rpOk q = true) : (q.length : Int) = 8 + bd (q.getD 5 0#8) := by
  obtain ⟨h8, hm, e⟩ := rp_of h
  have hn := (mayR_of hm).2.2.2.2
  have e5 : q.getD 5 0#8 = byteZ ((rpD q).length : Int) := by
    conv => lhs; rw [← e]
    rfl
  rw [e5, length_rpD, bd_byteZ (by omega) (by omega)]
  omega
theorem rp_short {q : List (BitVec 8)} (h : rpOk q = true) : rpOk (q.take (q.length - 1)) = false := by
  cases ho : rpOk (q.take (q.length - 1)) with
  | false => rfl
  | true =>
    have h8 := (rp_of h).1
    have a := rp_len h
    have b := rp_len ho
    rw [List.length_take, show (q.take (q.length - 1)).getD 5 0#8 = q.getD 5 0#8 by rw [List.getD_eq_getElem?_getD, List.getElem?_take_of_lt (by omega), ← List.getD_eq_getElem?_getD]] at b
    omega
end Go.Proofs.Ytamofhjnpahamaa

/- The document's Decode of any bytes. -/
set_option maxRecDepth 4000
namespace Go.Proofs.Ytamofhjnpahamaa
open Go Go.RowKit
theorem refrepdec_any (A : Option Addr) (n cc : Nat) (q : List (BitVec 8)) (w : World) (hs : Slice w (.slice A n cc) q) (hq : q.length = n) (hn : n ≤ 999999990) :
    Calls Try.prog 16 #[.slice A n cc] w fun e w' => ∃ v, e = .returned (.tuple #[.agg (repCells (reI q) (reE q) v), .int .i64 (reG q)]) ∧ w'.ownsRow w.heap.size 5 1 v (reD q).length (bytesV (reD q)) ∧ Below w.heap.size w w' := by
  have bad : rpOk q = false → ∀ (e : Ending) (w' : World), e = .returned (.tuple #[.agg (repCells 0 0 (.slice none 0 0)), .int .i64 11]) ∧ Below w.heap.size w w' → ∃ v, e = .returned (.tuple #[.agg (repCells (reI q) (reE q) v), .int .i64 (reG q)]) ∧ w'.ownsRow w.heap.size 5 1 v (reD q).length (bytesV (reD q)) ∧ Below w.heap.size w w' := by
    rintro h e w' ⟨rfl, hb⟩
    have h1 : reI q = 0 := by unfold reI; rw [h]; rfl
    have h2 : reE q = 0 := by unfold reE; rw [h]; rfl
    have h3 : reD q = [] := by unfold reD; rw [h]; rfl
    have h4 : reG q = 11 := by unfold reG; rw [h]; rfl
    rw [h1, h2, h3, h4]
    exact ⟨_, rfl, World.ownsRow_nil _ _ _ _, hb⟩
  by_cases h8 : n < 8
  · have hr : rpOk q = false := by unfold rpOk; rw [decide_eq_false (by omega)]; rfl
    exact (refdec_rlen A n cc w h8).mono fun e w' h => bad hr e w' h
  obtain ⟨m, rfl⟩ : ∃ m, n = m + 8 := ⟨n - 8, by omega⟩
  obtain ⟨g, o, rfl, hB, hc⟩ := slice_bat hs (by omega)
  rw [hq] at hc
  have hm8 : q.length - 8 = m := by omega
  by_cases h5 : (m : Int) = bd (q.getD 5 0#8)
  · cases hm : mayR (rpI q) (rpE q) m with
    | false =>
      have hr : rpOk q = false := by unfold rpOk; rw [hm8, hm]; simp
      exact (refdec_rno g o cc m q w hB hq hc (by omega) h5 hm).mono fun e w' h => bad hr e w' h
    | true =>
      by_cases hb : repB (rpI q) (rpE q) (rpD q) = q
      · have hr : rpOk q = true := by unfold rpOk; rw [hm8, hm, decide_eq_true hb, decide_eq_true (by omega)]; rfl
        refine (refdec_rgood g o cc m q w hB hq hc (by omega) h5 hm hb).mono ?_
        rintro e w' ⟨v, rfl, ho, hbb⟩
        have h1 : reI q = rpI q := by unfold reI; rw [hr]; rfl
        have h2 : reE q = rpE q := by unfold reE; rw [hr]; rfl
        have h3 : reD q = rpD q := by unfold reD; rw [hr]; rfl
        have h4 : reG q = 0 := by unfold reG; rw [hr]; rfl
        rw [h1, h2, h3, h4, length_rpD, hm8]
        exact ⟨v, rfl, ho, hbb⟩
      · have hr : rpOk q = false := by unfold rpOk; rw [decide_eq_false hb, Bool.and_false]
        exact (refdec_rother g o cc m q w hB hq hc (by omega) h5 hm hb).mono fun e w' h => bad hr e w' h
  · have hr : rpOk q = false := by
      cases hx : rpOk q with
      | false => rfl
      | true => have := rp_len hx; omega
    exact (refdec_rcount g o cc m q w hB hq hc (by omega) h5).mono fun e w' h => bad hr e w' h
end Go.Proofs.Ytamofhjnpahamaa
