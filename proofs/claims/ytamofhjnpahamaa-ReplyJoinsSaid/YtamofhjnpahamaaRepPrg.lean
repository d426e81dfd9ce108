/- The program's reply: may there be such a reply; its bytes. -/
import Derived.Test.YtamofhjnpahamaaRepSpec
import Derived.Test.YtamofhjnpahamaaStMore
import Derived.Test.YtamofhjnpahamaaCrcMore
set_option maxRecDepth 4000
namespace Go.Proofs.Ytamofhjnpahamaa
open Go Go.RowKit
theorem size_rep : (Try.prog.info? 31).map (·.size) = some 3 := by kernel_rfl
set_option maxHeartbeats 1600000 in
theorem mayr_any (i e : Int) (A : Option Addr) (n c : Nat) (w : World) : Calls Try.prog 20 #[.agg (repCells i e (.slice A n c))] w fun x w' => x = .returned (.bool (mayR i e n)) ∧ Below w.heap.size w w' := by
  have HY := Lib.hid (@mayR_of i e n)
  have HN := Lib.hid (@mayR_no i e n)
  obtain ⟨G, hG⟩ : ∃ G, mayR i e n = G := ⟨_, rfl⟩
  rw [hG] at HY HN ⊢
  clear hG
  have HS := St.nil w noF
  go_enter Try.func20, Try.ntmps20
  go_upto_region 1 with (first | ((with_reducible refine wpList_plain ?_ ?_); exact rfl; intro KK hKK; refine wp_st_box HS 31 (.tmp 0) rfl _ rfl (repCells i e (.slice A n c)) (rfl) (fun g1 W1 HSx => hKK _ _ ?_); clear hKK KK HS; have HS : St w noF [⟨g1, 31, repCells i e (.slice A n c)⟩] W1 := HSx; clear HSx))
  have c0 : W1.cell? ⟨g1, 0, none⟩ = some (.int .i64 i) := (HS.row 0 rfl).get rfl
  have c1 : W1.cell? ⟨g1, 1, none⟩ = some (.int .i64 e) := (HS.row 0 rfl).get rfl
  have c2 : W1.cell? ⟨g1, 2, none⟩ = some (.slice A n c) := (HS.row 0 rfl).get rfl
  have HB := Lib.hid HS.below
  clear HS
  by_cases h0 : i < 0
  · have d0 : decide (0 ≤ i) = false := decide_eq_false (by omega)
    have hG : G = false := by cases G with | false => rfl | true => (have := HY.out rfl; omega)
    go_wp2_with fail
    go_ret
    first | exact ⟨rfl, HB.out⟩ | (rw [hG]; exact ⟨rfl, HB.out⟩)
  have d0 : decide (0 ≤ i) = true := decide_eq_true (by omega)
  by_cases h1 : 2147483647 < i
  · have d1 : decide (i ≤ 2147483647) = false := decide_eq_false (by omega)
    have hG : G = false := by cases G with | false => rfl | true => (have := HY.out rfl; omega)
    go_wp2_with fail
    go_ret
    first | exact ⟨rfl, HB.out⟩ | (rw [hG]; exact ⟨rfl, HB.out⟩)
  have d1 : decide (i ≤ 2147483647) = true := decide_eq_true (by omega)
  by_cases h2 : e < 0
  · have d2 : decide (0 ≤ e) = false := decide_eq_false (by omega)
    have hG : G = false := by cases G with | false => rfl | true => (have := HY.out rfl; omega)
    go_wp2_with fail
    go_ret
    first | exact ⟨rfl, HB.out⟩ | (rw [hG]; exact ⟨rfl, HB.out⟩)
  have d2 : decide (0 ≤ e) = true := decide_eq_true (by omega)
  by_cases h3 : 255 < e
  · have d3 : decide (e ≤ 255) = false := decide_eq_false (by omega)
    have hG : G = false := by cases G with | false => rfl | true => (have := HY.out rfl; omega)
    go_wp2_with fail
    go_ret
    first | exact ⟨rfl, HB.out⟩ | (rw [hG]; exact ⟨rfl, HB.out⟩)
  have d3 : decide (e ≤ 255) = true := decide_eq_true (by omega)
  by_cases h4 : 255 < n
  · have d4 : decide ((n : Int) ≤ 255) = false := decide_eq_false (by omega)
    have d4' : ¬ n ≤ 255 := by omega
    have hG : G = false := by cases G with | false => rfl | true => (have := HY.out rfl; omega)
    go_wp2_with fail
    go_ret
    first | exact ⟨rfl, HB.out⟩ | (rw [hG]; exact ⟨rfl, HB.out⟩)
  have d4 : decide ((n : Int) ≤ 255) = true := decide_eq_true (by omega)
  have d4' : n ≤ 255 := by omega
  have hG : G = true := by cases G with | true => rfl | false => exact (HN.out rfl ⟨by omega, by omega, by omega, by omega, by omega⟩).elim
  go_wp2_with fail
  go_ret
  first | exact ⟨rfl, HB.out⟩ | (rw [hG]; exact ⟨rfl, HB.out⟩)
set_option maxHeartbeats 800000 in
theorem repenc_bad (i e : Int) (A : Option Addr) (n c : Nat) (w : World) (hc : mayR i e n = false) : Calls Try.prog 10 #[.agg (repCells i e (.slice A n c))] w fun x w' => x = .returned (.tuple #[.slice none 0 0, .int .i64 11]) ∧ Below w.heap.size w w' := by
  have C := Lib.hid (fun W => mayr_any i e A n c W)
  rw [hc] at C
  clear hc
  have HS := St.nil w noF
  go_enter Try.func10, Try.ntmps10
  go_upto_region 1 with (first | ((with_reducible refine wpList_plain ?_ ?_); exact rfl; intro KK hKK; refine wp_st_box HS 31 (.tmp 0) rfl _ rfl (repCells i e (.slice A n c)) (rfl) (fun g1 W1 HSx => hKK _ _ ?_); clear hKK KK HS; have HS : St w noF [⟨g1, 31, repCells i e (.slice A n c)⟩] W1 := HSx; clear HSx))
  go_wp2_with (first | ((with_reducible refine wpList_plain ?_ ?_); exact rfl; intro KK hKK; refine wp_st_load HS 0 0 31 (.tmp 1) rfl rfl rfl (repCells i e (.slice A n c)) (slab_whole _) _ Try.underlying31 rfl (by exact size_rep) (hKK _ _ ?_); clear hKK KK))
  refine (C.out _).mono ?_
  rintro x w1 ⟨rfl, hb⟩
  have HSx := HS.same hb
  clear HS hb C
  go_wp2_with fail
  go_ret2
  exact ⟨rfl, HSx.below⟩
set_option maxHeartbeats 1600000 in
theorem repenc_good (i e : Int) (A : Option Addr) (n c : Nat) (d : List (BitVec 8)) (hd : d.length = n) (w : World) (hs : Slice w (.slice A n c) d) (hA : A = none → c = 0) (hc : mayR i e n = true) :
    Calls Try.prog 10 #[.agg (repCells i e (.slice A n c))] w fun x w' => ∃ v, x = .returned (.tuple #[v, .int .i64 0]) ∧ w'.ownsRow w.heap.size 5 1 v (repB i e d).length (bytesV (repB i e d)) ∧ Below w.heap.size w w' := by
  have C := Lib.hid (fun W => mayr_any i e A n c W)
  rw [hc] at C
  obtain ⟨_, _, _, _, hn⟩ := mayR_of hc
  have HN := Lib.hid hn
  have HD := Lib.hid hd
  have HSL := Lib.hid hs
  have HA := Lib.hid hA
  clear hc hd hs hA hn
  have HS := St.nil w noF
  go_enter Try.func10, Try.ntmps10
  go_upto_region 1 with (first | ((with_reducible refine wpList_plain ?_ ?_); exact rfl; intro KK hKK; refine wp_st_box HS 31 (.tmp 0) rfl _ rfl (repCells i e (.slice A n c)) (rfl) (fun g1 W1 HSx => hKK _ _ ?_); clear hKK KK HS; have HS : St w noF [⟨g1, 31, repCells i e (.slice A n c)⟩] W1 := HSx; clear HSx))
  go_wp2_with (first | ((with_reducible refine wpList_plain ?_ ?_); exact rfl; intro KK hKK; refine wp_st_load HS 0 0 31 (.tmp 1) rfl rfl rfl (repCells i e (.slice A n c)) (slab_whole _) _ Try.underlying31 rfl (by exact size_rep) (hKK _ _ ?_); clear hKK KK))
  refine (C.out _).mono ?_
  rintro x w1 ⟨rfl, hb⟩
  have HSW := Lib.hid (HS.same hb)
  clear HS hb C
  obtain ⟨B0, hB0⟩ : ∃ B0, w1.heap.size = B0 := ⟨_, rfl⟩
  have HB0 := Lib.hid hB0
  have c0 : w1.cell? ⟨g1, 0, none⟩ = some (.int .i64 i) := (HSW.out.row 0 rfl).get rfl
  have hw0 := wordZ_wrap i
  have CL := applong_any B0 [] (wordZ i) (.slice none 0 0) w1 (World.ownsRow_nil _ _ _ _) (Nat.le_of_eq hB0.symm) (by decide)
  clear hB0
  go_wp2_with fail
  refine CL.mono ?_
  rintro x w2 ⟨v2, rfl, h2, b2⟩
  have HB2 := Lib.hid b2
  have HO2 : Hid (w2.ownsRow B0 5 1 v2 4 (bytesV (four (wordZ i)))) := Lib.hid h2
  clear CL c0 hw0 h2 b2
  have HS2 := HSW.out.same (by rw [HB0.out]; exact HB2.out)
  have c1 : w2.cell? ⟨g1, 1, none⟩ = some (.int .i64 e) := (HS2.row 0 rfl).get rfl
  have c2 : w2.cell? ⟨g1, 2, none⟩ = some (.slice A n c) := (HS2.row 0 rfl).get rfl
  have hw1 : IntKind.u8.wrap e = bd (byteZ e) := wrap_u8_bd e
  have hw2 : IntKind.u8.wrap (n : Int) = bd (byteZ (n : Int)) := wrap_u8_bd _
  have HP : Hid (Slice (w2.alloc (.cells #[.int .u8 (bd (byteZ e)), .int .u8 (bd (byteZ (n : Int)))] 5)) (.slice (some ⟨w2.heap.size, 0, none⟩) 2 2) [byteZ e, byteZ (n : Int)]) := Lib.hid (row_slice (Row.fresh w2 5 (bs [byteZ e, byteZ (n : Int)])) (c := 2) (Nat.le_refl _))
  have HO := Lib.hid (HO2.out.alloc (.cells #[.int .u8 (bd (byteZ e)), .int .u8 (bd (byteZ (n : Int)))] 5))
  have HB3 := Lib.hid (HB2.out.alloc (by rw [← HB0.out]; exact HB2.out.size) (.cells #[.int .u8 (bd (byteZ e)), .int .u8 (bd (byteZ (n : Int)))] 5))
  clear HS2 HO2
  go_upto_region 5 with (at_builtin; refine wpList_append_slice rfl (.tmp 12) (.tmp 20) rfl B0 _ 4 _ rfl HO.out (some ⟨w2.heap.size, 0, none⟩) 2 2 _ rfl HP.out (fun h => by cases h) (by decide) (Nat.le_trans (Nat.le_of_eq HB0.out.symm) HB3.out.size) ?_; intro v4 w4 own4 hb4; rw [← bytesV_apps] at own4; have HO4 := Lib.hid own4; have HB4 := Lib.hid (HB3.out.trans hb4); clear own4 hb4 HO HP HB3 c1 c2 hw1 hw2)
  have HS4 := HSW.out.same (by rw [HB0.out]; exact HB4.out)
  have c2 : w4.cell? ⟨g1, 2, none⟩ = some (.slice A n c) := (HS4.row 0 rfl).get rfl
  have hsl := HSL.out.below HS4.below (Nat.le_refl _)
  have hn9 := HN.out
  clear HS4 HB2
  go_upto_region 6 with (at_builtin; refine wpList_append_slice rfl (.tmp 22) (.tmp 24) rfl B0 _ 6 _ rfl HO4.out A n c d rfl hsl HA.out (by omega) (Nat.le_trans (Nat.le_of_eq HB0.out.symm) HB4.out.size) ?_; intro v5 w5 own5 hb5; rw [← bytesV_apps] at own5; have HO5 := Lib.hid own5; have HB5 := Lib.hid (HB4.out.trans hb5); clear own5 hb5 HO4 HB4 c2 hsl)
  have HEQ : Hid (four (wordZ i) ++ [byteZ e, byteZ (n : Int)] ++ d = repH i e d) := Lib.hid (by unfold repH; rw [HD.out])
  have hLH : (repH i e d).length = 6 + n := by rw [length_repH, HD.out]
  have own5 := HO5.out
  rw [HEQ.out, ← hLH] at own5
  have hs5 := own_slice own5
  obtain ⟨A5, c5, rfl, hc5⟩ := own_slice_form own5
  rw [hLH] at hs5 hc5 own5 ⊢
  have hb6 := HB5.out.alloc (by rw [← HB0.out]; exact HB5.out.size) (.cells #[.slice A5 (6 + n) c5] 23)
  have own6 := own5.alloc (.cells #[.slice A5 (6 + n) c5] 23)
  have CK := check_any [repH i e d] _ _ (parts1 hs5) (by simp [maxLen]) (by simp [hLH, maxLen]; omega)
  rw [List.flatten_cons, List.flatten_nil, List.append_nil] at CK
  obtain ⟨w6, hw6⟩ : ∃ w6, w5.alloc (.cells #[.slice A5 (6 + n) c5] 23) = w6 := ⟨_, rfl⟩
  rw [hw6] at hb6 own6 CK
  clear hs5 HO5 HEQ own5
  obtain ⟨K, hK⟩ : ∃ K, crcOf (repH i e d) = K := ⟨_, rfl⟩
  rw [hK] at CK
  have CS := appshort_any B0 (repH i e d) K _ w6 (by rw [hLH]; exact own6) (Nat.le_trans (Nat.le_of_eq HB0.out.symm) hb6.size) (by rw [hLH]; omega)
  have HB6 := Lib.hid hb6
  have HKB : Hid (repH i e d ++ two K = repB i e d) := Lib.hid (by unfold repB; rw [hK])
  have HLB := Lib.hid (length_repB i e d)
  have HLH := Lib.hid hLH
  clear hb6 own6 hK hLH hn9
  go_wp2_with fail
  refine CK.mono ?_
  rintro x w7 ⟨rfl, rfl⟩
  clear CK
  go_wp2_with fail
  refine CS.mono ?_
  rintro x w8 ⟨v8, rfl, h8, b8⟩
  rw [HKB.out, HLH.out] at h8
  have HO8 := Lib.hid h8
  have HB8 := Lib.hid (HB6.out.trans b8)
  clear CS h8 b8
  go_wp2_with fail
  go_ret2
  have hz : w.heap.size ≤ B0 := by rw [← HB0.out]; exact HSW.out.below.size
  refine ⟨_, rfl, ?_, HSW.out.below.trans (HB8.out.mono hz)⟩
  rw [HLB.out, HD.out]
  exact own_base (by rw [show 8 + n = 6 + n + 2 by omega]; exact HO8.out) hz
end Go.Proofs.Ytamofhjnpahamaa
