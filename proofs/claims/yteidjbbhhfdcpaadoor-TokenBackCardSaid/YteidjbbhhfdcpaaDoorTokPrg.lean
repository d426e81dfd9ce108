/- The program's token: a claim's bytes, a token's. -/
import Derived.Test.YteidjbbhhfdcpaaDoorTokMay
import Derived.Test.YteidjbbhhfdcpaaDoorLow
set_option maxRecDepth 4000
namespace Go.Proofs.YteidjbbhhfdcpaaDoor
open Go Go.RowKit
theorem size_clm : (Tryd.prog.info? 24).map (·.size) = some 5 := by kernel_rfl
theorem own_litq (w : World) (q : List (BitVec 8)) (h : q.length ≤ maxLen) : (w.alloc (.cells (bs q) 5)).ownsRow w.heap.size 5 1 (.slice (some ⟨w.heap.size, 0, none⟩) q.length q.length) q.length (bytesV q) :=
  ⟨by rw [len_bytesV, Nat.mul_one], .inr ⟨w.heap.size, q.length, bs q, rfl, Nat.le_refl _, heap_alloc_new w _, Nat.le_refl _, h, by rw [size_bs, Nat.mul_one], by rw [bs_toList]; exact List.take_of_length_le (by rw [len_bytesV]; omega)⟩⟩
theorem own_base {w : World} {b b' e size n : Nat} {v : Value} {xs : List Value} (h : w.ownsRow b e size v n xs) (hb : b' ≤ b) : w.ownsRow b' e size v n xs := by
  refine ⟨h.1, ?_⟩
  rcases h.2 with h | ⟨g, cap, cur, h1, h2, h3⟩
  · exact .inl h
  · exact .inr ⟨g, cap, cur, h1, Nat.le_trans hb h2, h3⟩
theorem tok_clm (c : Clm) (t : List (BitVec 8)) : ((tokCells c t).toList.drop 0).take (clmCells c).size = (clmCells c).toList := by
  unfold tokCells
  rw [List.drop_zero, Array.toList_append]
  exact List.take_left' (by simp)
theorem tok_slice {w : World} {g : Nat} {t : TypeId} {c : Clm} {q : List (BitVec 8)} (h : Row w g t (tokCells c q)) (hq : q.length = 32) : Slice w (.slice (some ⟨g, 5, none⟩) 32 32) q := by
  refine ⟨some ⟨g, 5, none⟩, 32, by rw [hq], by rw [hq]; exact Nat.le_refl _, fun _ => ⟨g, 5, rfl, h.lt, fun j x hx => ?_⟩⟩
  refine h.get ?_
  unfold tokCells
  rw [Array.getElem?_append_right (by show 5 ≤ 5 + j; omega), show 5 + j - (clmCells c).size = j from by show 5 + j - 5 = j; omega]
  simp [bs, hx]
theorem clmB_eq (c : Clm) : clmB c = [byteI c.p] ++ padN c.n ++ [byteI c.r] ++ four c.u ++ four c.g := by unfold clmB; rw [four_le, four_le]; simp
set_option maxHeartbeats 800000 in
theorem claim_bad (c : Clm) (w : World) (hm : c.n.length ≤ maxLen) (hc : mayC c = false) : Calls Tryd.prog 10 #[.agg (clmCells c)] w fun e w' => e = .returned (.tuple #[.slice none 0 0, .int .i64 11]) ∧ Below w.heap.size w w' := by
  have C := Lib.hid (fun W => maybe_any c W hm)
  rw [hc] at C
  clear hm hc
  have HS := St.nil w noF
  go_enter Tryd.func10, Tryd.ntmps10
  go_wp2_with (first | ((with_reducible refine wpList_plain ?_ ?_); exact rfl; intro KK hKK; refine wp_st_box HS 24 (.tmp 0) rfl _ rfl (clmCells c) (rfl) (fun g1 W1 HSx => hKK _ _ ?_); clear hKK KK HS; have HS : St w noF [⟨g1, 24, clmCells c⟩] W1 := HSx; clear HSx) | ((with_reducible refine wpList_plain ?_ ?_); exact rfl; intro KK hKK; refine wp_st_load HS 0 0 24 (.tmp 1) rfl rfl rfl (clmCells c) (slab_whole _) _ Tryd.underlying24 rfl (by exact size_clm) (hKK _ _ ?_); clear hKK KK))
  refine (C.out _).mono ?_
  rintro e w1 ⟨rfl, hb⟩
  have HSx := HS.same hb
  clear HS hb C
  go_wp2_with fail
  go_ret2
  exact ⟨rfl, HSx.below⟩
set_option maxHeartbeats 1600000 in
theorem claim_good (c : Clm) (w : World) (hm : c.n.length ≤ maxLen) (hc : mayC c = true) : Calls Tryd.prog 10 #[.agg (clmCells c)] w fun e w' => ∃ v, e = .returned (.tuple #[v, .int .i64 0]) ∧ w'.ownsRow w.heap.size 5 1 v (clmB c).length (bytesV (clmB c)) ∧ Below w.heap.size w w' := by
  have C := Lib.hid (fun W => maybe_any c W hm)
  rw [hc] at C
  clear hm hc
  have HEQ := Lib.hid (clmB_eq c)
  have HS := St.nil w noF
  go_enter Tryd.func10, Tryd.ntmps10
  go_wp2_with (first | ((with_reducible refine wpList_plain ?_ ?_); exact rfl; intro KK hKK; refine wp_st_box HS 24 (.tmp 0) rfl _ rfl (clmCells c) (rfl) (fun g1 W1 HSx => hKK _ _ ?_); clear hKK KK HS; have HS : St w noF [⟨g1, 24, clmCells c⟩] W1 := HSx; clear HSx) | ((with_reducible refine wpList_plain ?_ ?_); exact rfl; intro KK hKK; refine wp_st_load HS 0 0 24 (.tmp 1) rfl rfl rfl (clmCells c) (slab_whole _) _ Tryd.underlying24 rfl (by exact size_clm) (hKK _ _ ?_); clear hKK KK))
  refine (C.out _).mono ?_
  rintro e w1 ⟨rfl, hb⟩
  have HSx := HS.same hb
  clear HS hb C
  have HS := HSx
  clear HSx
  have c1 : w1.cell? ⟨g1, 1, none⟩ = some (.string (strB c.n)) := (HS.row 0 rfl).get rfl
  go_wp2_with fail
  refine (pad_any c.n _).mono ?_
  rintro e w2 ⟨rfl, hb⟩
  have HSx := HS.same hb
  clear HS hb c1
  have HS := HSx
  clear HSx
  go_upto_region 4 with (first | ((with_reducible refine wpList_plain ?_ ?_); exact rfl; intro KK hKK; refine wp_st_alloc HS 49 (bs (zer 4)) rfl (.agg (bs (zer 4))) (by kernel_rfl) (rfl) (fun g4 W11 HSx => hKK _ _ ?_); clear hKK KK HS; have HS : St w noF [⟨g1, 24, clmCells c⟩, ⟨g4, 49, bs (zer 4)⟩] W11 := HSx; clear HSx) | ((with_reducible refine wpList_plain ?_ ?_); exact rfl; intro KK hKK; refine wp_st_store HS 1 0 49 (.tmp 4) (.tmp 11) rfl rfl rfl (.agg (bs (padN c.n))) rfl (by rw [show Value.cells (.agg (bs (padN c.n))) = bs (padN c.n) from rfl, size_bs, length_padN]; exact size_b4) (by rw [show Value.cells (.agg (bs (padN c.n))) = bs (padN c.n) from rfl, size_bs, length_padN, size_bs, length_zer]; decide) (by exact one_bs _) (bs (padN c.n)) (spl_agg _ _ _ rfl (by rw [size_bs, size_bs, length_padN, length_zer])) (fun W12 HSx => hKK _ _ ?_); clear hKK KK HS; have HS : St w noF [⟨g1, 24, clmCells c⟩, ⟨g4, 49, bs (padN c.n)⟩] W12 := HSx; clear HSx))
  obtain ⟨B0, hB0⟩ : ∃ B0, W12.heap.size = B0 := ⟨_, rfl⟩
  have HB0 := Lib.hid hB0
  have HSW := Lib.hid HS
  have c0 : W12.cell? ⟨g1, 0, none⟩ = some (.int .i64 c.p) := (HS.row 0 rfl).get rfl
  have hw0 : IntKind.u8.wrap c.p = bd (byteI c.p) := wrap_u8_bd c.p
  have OW := own_litq W12 [byteI c.p] (by unfold maxLen; simp)
  have HBA := Lib.hid ((Below.refl W12.heap.size W12).alloc (Nat.le_refl _) (.cells #[.int .u8 (bd (byteI c.p))] 5))
  clear HS
  rw [hB0] at OW HBA
  have HOW : Hid ((W12.alloc (.cells #[.int .u8 (bd (byteI c.p))] 5)).ownsRow B0 5 1 (.slice (some ⟨B0, 0, none⟩) 1 1) [byteI c.p].length (bytesV [byteI c.p])) := Lib.hid OW
  clear OW hB0
  go_upto_region 5 with fail
  rw [HB0.out]
  generalize W12.alloc (.cells #[.int .u8 (bd (byteI c.p))] 5) = W13 at *
  have HS13 := Lib.hid (HSW.out.same (by rw [HB0.out]; exact HBA.out))
  have HP4 : Hid (Slice W13 (.slice (some ⟨g4, 0, none⟩) 4 4) (padN c.n)) := Lib.hid (by
    have := row_slice (HS13.out.row 1 rfl) (c := 4) (by rw [length_padN]; decide)
    rwa [length_padN] at this)
  clear c0 hw0
  go_upto_region 6 with (at_builtin; refine wpList_append_slice rfl (.tmp 16) (.tmp 17) rfl B0 _ 1 _ rfl HOW.out (some ⟨g4, 0, none⟩) 4 4 _ rfl HP4.out (fun h => by cases h) (by decide) (Nat.le_trans (Nat.le_of_eq HB0.out.symm) HBA.out.size) ?_; intro v5 W14 own5 hb5; rw [← bytesV_apps] at own5; have HO5 := Lib.hid own5; have HB5 := Lib.hid (HBA.out.trans hb5); clear own5 hb5 HOW HP4 HS13 HBA)
  have HS14 := Lib.hid (HSW.out.same (by rw [HB0.out]; exact HB5.out))
  have c2 : W14.cell? ⟨g1, 2, none⟩ = some (.int .i64 c.r) := (HS14.out.row 0 rfl).get rfl
  have hw0 : IntKind.u8.wrap c.r = bd (byteI c.r) := wrap_u8_bd c.r
  have HP5 : Hid (Slice (W14.alloc (.cells #[.int .u8 (bd (byteI c.r))] 5)) (.slice (some ⟨W14.heap.size, 0, none⟩) 1 1) [byteI c.r]) := Lib.hid (row_slice (Row.fresh W14 5 (bs [byteI c.r])) (c := 1) (Nat.le_refl _))
  have HO6 := Lib.hid (HO5.out.alloc (.cells #[.int .u8 (bd (byteI c.r))] 5))
  have HB6 := Lib.hid (HB5.out.alloc (by rw [← HB0.out]; exact HB5.out.size) (.cells #[.int .u8 (bd (byteI c.r))] 5))
  clear HO5 HS14
  go_upto_region 7 with (at_builtin; refine wpList_append_slice rfl (.tmp 19) (.tmp 23) rfl B0 _ 5 _ rfl HO6.out (some ⟨W14.heap.size, 0, none⟩) 1 1 _ rfl HP5.out (fun h => by cases h) (by decide) (Nat.le_trans (Nat.le_of_eq HB0.out.symm) HB6.out.size) ?_; intro v6 W15 own6 hb6; rw [← bytesV_apps] at own6; have HO7 := Lib.hid own6; have HB7 := Lib.hid (HB6.out.trans hb6); clear own6 hb6 HP5 HO6 HB6 c2 hw0)
  have HS15 := Lib.hid (HSW.out.same (by rw [HB0.out]; exact HB7.out))
  have c3 : W15.cell? ⟨g1, 3, none⟩ = some (.int .u32 (wd c.u)) := (HS15.out.row 0 rfl).get rfl
  have C := applong_any B0 ([byteI c.p] ++ padN c.n ++ [byteI c.r]) c.u v6 W15 (by rw [List.length_append, List.length_append, length_padN]; exact HO7.out) (Nat.le_trans (Nat.le_of_eq HB0.out.symm) HB7.out.size) (by rw [List.length_append, List.length_append, length_padN]; exact Nat.le_of_ble_eq_true rfl)
  clear HO7 HS15 HB5
  go_wp2_with fail
  refine C.mono ?_
  rintro e W16 ⟨v7, rfl, h7, b7⟩
  have HB8 := Lib.hid (HB7.out.trans b7)
  clear C c3 b7 HB7
  have HS16 := Lib.hid (HSW.out.same (by rw [HB0.out]; exact HB8.out))
  have c4 : W16.cell? ⟨g1, 4, none⟩ = some (.int .u32 (wd c.g)) := (HS16.out.row 0 rfl).get rfl
  have C := applong_any B0 ([byteI c.p] ++ padN c.n ++ [byteI c.r] ++ four c.u) c.g v7 W16 (by rw [List.length_append]; exact h7) (Nat.le_trans (Nat.le_of_eq HB0.out.symm) HB8.out.size) (by rw [List.length_append, List.length_append, List.length_append, length_padN]; exact Nat.le_of_ble_eq_true rfl)
  clear h7 HS16
  go_wp2_with fail
  refine C.mono ?_
  rintro e W17 ⟨v8, rfl, h8, b8⟩
  have HB9 := Lib.hid (HB8.out.trans b8)
  have HO8 := Lib.hid h8
  clear C c4 b8 HB8 h8
  go_wp2_with fail
  go_ret2
  have hz : w.heap.size ≤ B0 := by rw [← HB0.out]; exact HSW.out.below.size
  refine ⟨_, rfl, ?_, HSW.out.below.trans (HB9.out.mono hz)⟩
  rw [HEQ.out]
  exact own_base (by rw [List.length_append]; exact HO8.out) hz
set_option maxHeartbeats 800000 in
theorem tokenc_bad (c : Clm) (t : List (BitVec 8)) (w : World) (hm : c.n.length ≤ maxLen) (hc : mayC c = false) : Calls Tryd.prog 8 #[.agg (tokCells c t)] w fun e w' => e = .returned (.tuple #[.slice none 0 0, .int .i64 11]) ∧ Below w.heap.size w w' := by
  have C := Lib.hid (fun W => claim_bad c W hm hc)
  have HSZ : Hid (((tokCells c t).toList.drop 0).take (clmCells c).size = (clmCells c).toList) := Lib.hid (tok_clm c t)
  clear hm hc
  have HS := St.nil w noF
  go_enter Tryd.func8, Tryd.ntmps8
  go_wp2_with (first | ((with_reducible refine wpList_plain ?_ ?_); exact rfl; intro KK hKK; refine wp_st_box HS 28 (.tmp 0) rfl _ rfl (tokCells c t) (rfl) (fun g1 W1 HSx => hKK _ _ ?_); clear hKK KK HS; have HS : St w noF [⟨g1, 28, tokCells c t⟩] W1 := HSx; clear HSx) | ((with_reducible refine wpList_plain ?_ ?_); exact rfl; intro KK hKK; refine wp_st_load HS 0 0 24 (.tmp 7) rfl rfl rfl (clmCells c) (HSZ.out) _ Tryd.underlying24 rfl (by exact size_clm) (hKK _ _ ?_); clear hKK KK))
  refine (C.out _).mono ?_
  rintro e w1 ⟨rfl, hb⟩
  have HSx := HS.same hb
  clear HS hb C
  go_wp2_with fail
  go_ret2
  exact ⟨rfl, HSx.below⟩
set_option maxHeartbeats 800000 in
theorem tokenc_good (c : Clm) (t : List (BitVec 8)) (w : World) (ht : t.length = 32) (hm : c.n.length ≤ maxLen) (hc : mayC c = true) : Calls Tryd.prog 8 #[.agg (tokCells c t)] w fun e w' => ∃ v, e = .returned (.tuple #[v, .int .i64 0]) ∧ w'.ownsRow w.heap.size 5 1 v (clmB c ++ t).length (bytesV (clmB c ++ t)) ∧ Below w.heap.size w w' := by
  have C := Lib.hid (fun W => claim_good c W hm hc)
  have HSZ : Hid (((tokCells c t).toList.drop 0).take (clmCells c).size = (clmCells c).toList) := Lib.hid (tok_clm c t)
  have HTL := Lib.hid ht
  have HCL := Lib.hid (length_clmB c)
  clear hm hc ht
  have HS := St.nil w noF
  go_enter Tryd.func8, Tryd.ntmps8
  go_wp2_with (first | ((with_reducible refine wpList_plain ?_ ?_); exact rfl; intro KK hKK; refine wp_st_box HS 28 (.tmp 0) rfl _ rfl (tokCells c t) (rfl) (fun g1 W1 HSx => hKK _ _ ?_); clear hKK KK HS; have HS : St w noF [⟨g1, 28, tokCells c t⟩] W1 := HSx; clear HSx) | ((with_reducible refine wpList_plain ?_ ?_); exact rfl; intro KK hKK; refine wp_st_load HS 0 0 24 (.tmp 7) rfl rfl rfl (clmCells c) (HSZ.out) _ Tryd.underlying24 rfl (by exact size_clm) (hKK _ _ ?_); clear hKK KK))
  obtain ⟨B0, hB0⟩ : ∃ B0, W1.heap.size = B0 := ⟨_, rfl⟩
  refine (C.out W1).mono ?_
  rintro e w1 ⟨v1, rfl, ho, hb⟩
  have HB0 := Lib.hid hB0
  have HSW := Lib.hid HS
  rw [hB0, HCL.out] at ho
  rw [hB0] at hb
  have HO1 := Lib.hid ho
  have HB1 := Lib.hid hb
  clear ho hb hB0 C HS
  have HT : Hid (Slice w1 (.slice (some ⟨g1, 5, none⟩) 32 32) t) := Lib.hid (by
    have hr : Row w1 g1 28 (tokCells c t) := (HSW.out.same (by rw [HB0.out]; exact HB1.out)).row 0 rfl
    exact tok_slice hr HTL.out)
  go_wp2_with (at_builtin; refine wpList_append_slice rfl (.tmp 15) (.tmp 17) rfl B0 _ 14 _ rfl HO1.out (some ⟨g1, 5, none⟩) 32 32 _ rfl HT.out (fun h => by cases h) (by decide) (Nat.le_trans (Nat.le_of_eq HB0.out.symm) HB1.out.size) ?_; intro v5 W14 own5 hb5; rw [← bytesV_apps] at own5; have HO5 := Lib.hid own5; have HB5 := Lib.hid (HB1.out.trans hb5); clear own5 hb5 HO1 HT HB1)
  go_ret2
  have hz : w.heap.size ≤ B0 := by rw [← HB0.out]; exact HSW.out.below.size
  exact ⟨_, rfl, own_base (by rw [List.length_append, HCL.out, HTL.out]; exact HO5.out) hz, HSW.out.below.trans (HB5.out.mono hz)⟩
end Go.Proofs.YteidjbbhhfdcpaaDoor
