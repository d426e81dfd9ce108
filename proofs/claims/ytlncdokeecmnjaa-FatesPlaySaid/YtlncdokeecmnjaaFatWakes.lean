/- The example of fates' statements. -/
import Derived.Test.YtlncdokeecmnjaaFatAdd
set_option maxRecDepth 4000
namespace Go.Proofs.Ytlncdokeecmnjaa
open Go Go.RowKit
theorem fat_1 : fatC 1 = #[.bool true, .bool false, .bool false, .bool false] := by rw [fatC_pos (by decide), show fb 1 1 = true from by decide +kernel, show fb 1 2 = false from by decide +kernel, show fb 1 4 = false from by decide +kernel, show fb 1 8 = false from by decide +kernel]
theorem fat_6 : fatC 6 = #[.bool false, .bool true, .bool true, .bool false] := by rw [fatC_pos (by decide), show fb 6 1 = false from by decide +kernel, show fb 6 2 = true from by decide +kernel, show fb 6 4 = true from by decide +kernel, show fb 6 8 = false from by decide +kernel]
theorem fat_8 : fatC 8 = #[.bool false, .bool false, .bool false, .bool true] := by rw [fatC_pos (by decide), show fb 8 1 = false from by decide +kernel, show fb 8 2 = false from by decide +kernel, show fb 8 4 = false from by decide +kernel, show fb 8 8 = true from by decide +kernel]
theorem chg_belowF {w0 w w' : World} {g : Nat} (h : Chg (fun k => k = g) w w') (hg : w0.heap.size ≤ g) (hB : w0.heap.size ≤ w.heap.size) : Below w0.heap.size w w' :=
  ⟨h.os, h.tape, h.output, h.size, fun k hk => h.block k (by omega) (fun e => by omega)⟩
set_option maxHeartbeats 1600000 in
theorem ftwakes_any (w : World) : Calls Try.prog 7 #[] w fun e w' => e = .returned (.bool true) ∧ Below w.heap.size w w' := by
  have HS := St.nil w noF
  go_enter Try.func7, Try.ntmps7
  go_upto_region 2 with (first | ((with_reducible refine wpList_plain ?_ ?_); exact rfl; intro KK hKK; refine wp_st_box HS 27 (.tmp 7) rfl _ rfl (#[.slice none 0 0]) (rfl) (fun g1 W1 HSx => hKK _ _ ?_); clear hKK KK HS; have HS : St w noF [⟨g1, 27, #[.slice none 0 0]⟩] W1 := HSx; clear HSx))
  have HG : Hid (w.heap.size ≤ g1) := Lib.hid ((HS.own 0 _ rfl).resolve_left (fun h => h))
  have HB0 := Lib.hid HS.below
  have HF0 : Hid (FatAt W1 g1 []) := Lib.hid ⟨none, 0, 0, HS.row 0 rfl, none, 0, rfl, Nat.le_refl _, fun _ => rfl, by decide, fun h => absurd rfl h⟩
  clear HS
  have hal : Below W1.heap.size W1 (W1.alloc (.cells #[.int .i64 1, .int .i64 6] 3)) := (Below.refl _ _).alloc (Nat.le_refl _) _
  have hown : (W1.alloc (.cells #[.int .i64 1, .int .i64 6] 3)).ownsRow W1.heap.size 3 1 (.slice (some ⟨W1.heap.size, 0, none⟩) 2 2) 2 (intsV [1, 6]) := ⟨rfl, .inr ⟨W1.heap.size, 2, _, rfl, Nat.le_refl _, heap_alloc_new W1 _, Nat.le_refl _, by decide, rfl, rfl⟩⟩
  have CA := add_any g1 [] (some ⟨W1.heap.size, 0, none⟩) 2 2 [1, 6] (W1.alloc (.cells #[.int .i64 1, .int .i64 6] 3)) (HF0.out.call hal) (ints_own hown (by decide)) (by decide) (by decide)
  rw [show addE [] [1, 6] = 0 from by decide, show addL [] [1, 6] = [1, 6] from by decide] at CA
  have HAL := Lib.hid (HB0.out.trans (hal.mono HB0.out.size))
  clear hal hown
  go_wp2_with fail
  refine CA.mono ?_
  rintro e w2 ⟨rfl, hfa9, hch⟩
  have HF2 := Lib.hid hfa9
  have HB2 := Lib.hid (HAL.out.trans (chg_belowF hch HG.out HAL.out.size))
  clear CA HAL hfa9 hch
  have hal : Below w2.heap.size w2 (w2.alloc (.cells #[.int .i64 16] 3)) := (Below.refl _ _).alloc (Nat.le_refl _) _
  have hown : (w2.alloc (.cells #[.int .i64 16] 3)).ownsRow w2.heap.size 3 1 (.slice (some ⟨w2.heap.size, 0, none⟩) 1 1) 1 (intsV [16]) := ⟨rfl, .inr ⟨w2.heap.size, 1, _, rfl, Nat.le_refl _, heap_alloc_new w2 _, Nat.le_refl _, by decide, rfl, rfl⟩⟩
  have CA := add_any g1 [1, 6] (some ⟨w2.heap.size, 0, none⟩) 1 1 [16] (w2.alloc (.cells #[.int .i64 16] 3)) (HF2.out.call hal) (ints_own hown (by decide)) (by decide) (by decide)
  rw [show addE [1, 6] [16] = 1 from by decide, show addL [1, 6] [16] = [1, 6] from by decide] at CA
  have HAL := Lib.hid (HB2.out.trans (hal.mono HB2.out.size))
  clear hal hown
  go_wp2_with fail
  refine CA.mono ?_
  rintro e w3 ⟨rfl, hfa9, hch⟩
  have HF3 := Lib.hid hfa9
  have HB3 := Lib.hid (HAL.out.trans (chg_belowF hch HG.out HAL.out.size))
  clear CA HAL hfa9 hch
  have CT := take_any g1 [1, 6] w3 HF3.out
  rw [show headC [1, 6] = #[.bool true, .bool false, .bool false, .bool false] from by show fatC _ = _; exact fat_1, show ([1, 6] : List Int).tail = [6] from rfl] at CT
  go_wp2_with fail
  refine CT.mono ?_
  rintro e w4 ⟨rfl, hfa9, hch⟩
  have HF4 := Lib.hid hfa9
  have HB4 := Lib.hid (HB3.out.trans (chg_belowF hch HG.out HB3.out.size))
  clear CT hfa9 hch
  have CT := take_any g1 [6] w4 HF4.out
  rw [show headC [6] = #[.bool false, .bool true, .bool true, .bool false] from by show fatC _ = _; exact fat_6, show ([6] : List Int).tail = [] from rfl] at CT
  go_wp2_with fail
  refine CT.mono ?_
  rintro e w5 ⟨rfl, hfa9, hch⟩
  have HF5 := Lib.hid hfa9
  have HB5 := Lib.hid (HB4.out.trans (chg_belowF hch HG.out HB4.out.size))
  clear CT hfa9 hch
  have CT := take_any g1 [] w5 HF5.out
  rw [show headC [] = #[.bool false, .bool false, .bool false, .bool false] from rfl, show ([] : List Int).tail = [] from rfl] at CT
  go_wp2_with fail
  refine CT.mono ?_
  rintro e w6 ⟨rfl, hfa9, hch⟩
  have HF6 := Lib.hid hfa9
  have HB6 := Lib.hid (HB5.out.trans (chg_belowF hch HG.out HB5.out.size))
  clear CT hfa9 hch
  have HT := St.nil w6 noF
  go_upto_region 4 with (first | ((with_reducible refine wpList_plain ?_ ?_); exact rfl; intro KK hKK; refine wp_st_alloc HT 36 (#[.bool false, .bool false, .bool false, .bool false]) rfl (.agg (#[.bool false, .bool false, .bool false, .bool false])) (by kernel_rfl) (rfl) (fun g4 W11 HSx => hKK _ _ ?_); clear hKK KK HT; have HT : St w6 noF [⟨g4, 36, #[.bool false, .bool false, .bool false, .bool false]⟩] W11 := HSx; clear HSx) | ((with_reducible refine wpList_plain ?_ ?_); exact rfl; intro KK hKK; refine wp_st_alloc HT 36 (#[.bool false, .bool false, .bool false, .bool false]) rfl (.agg (#[.bool false, .bool false, .bool false, .bool false])) (by kernel_rfl) (rfl) (fun g5 W12 HSx => hKK _ _ ?_); clear hKK KK HT; have HT : St w6 noF [⟨g4, 36, #[.bool false, .bool false, .bool false, .bool false]⟩, ⟨g5, 36, #[.bool false, .bool false, .bool false, .bool false]⟩] W12 := HSx; clear HSx) | ((with_reducible refine wpList_plain ?_ ?_); exact rfl; intro KK hKK; refine wp_st_alloc HT 36 (#[.bool false, .bool false, .bool false, .bool false]) rfl (.agg (#[.bool false, .bool false, .bool false, .bool false])) (by kernel_rfl) (rfl) (fun g6 W13 HSx => hKK _ _ ?_); clear hKK KK HT; have HT : St w6 noF [⟨g4, 36, #[.bool false, .bool false, .bool false, .bool false]⟩, ⟨g5, 36, #[.bool false, .bool false, .bool false, .bool false]⟩, ⟨g6, 36, #[.bool false, .bool false, .bool false, .bool false]⟩] W13 := HSx; clear HSx) | ((with_reducible refine wpList_plain ?_ ?_); exact rfl; intro KK hKK; refine wp_st_store HT 0 0 36 (.tmp 4) (.tmp 16) rfl rfl rfl (.agg (#[.bool true, .bool false, .bool false, .bool false])) rfl (by exact size_fat) (Nat.le_refl 4) (by simp [Value.cells, Value.oneCell']) (#[.bool true, .bool false, .bool false, .bool false]) (by exact spl_agg _ _ _ rfl rfl) (fun W14 HSx => hKK _ _ ?_); clear hKK KK HT; have HT : St w6 noF [⟨g4, 36, #[.bool true, .bool false, .bool false, .bool false]⟩, ⟨g5, 36, #[.bool false, .bool false, .bool false, .bool false]⟩, ⟨g6, 36, #[.bool false, .bool false, .bool false, .bool false]⟩] W14 := HSx; clear HSx) | ((with_reducible refine wpList_plain ?_ ?_); exact rfl; intro KK hKK; refine wp_st_store HT 1 0 36 (.tmp 5) (.tmp 18) rfl rfl rfl (.agg (#[.bool false, .bool true, .bool true, .bool false])) rfl (by exact size_fat) (Nat.le_refl 4) (by simp [Value.cells, Value.oneCell']) (#[.bool false, .bool true, .bool true, .bool false]) (by exact spl_agg _ _ _ rfl rfl) (fun W15 HSx => hKK _ _ ?_); clear hKK KK HT; have HT : St w6 noF [⟨g4, 36, #[.bool true, .bool false, .bool false, .bool false]⟩, ⟨g5, 36, #[.bool false, .bool true, .bool true, .bool false]⟩, ⟨g6, 36, #[.bool false, .bool false, .bool false, .bool false]⟩] W15 := HSx; clear HSx) | ((with_reducible refine wpList_plain ?_ ?_); exact rfl; intro KK hKK; refine wp_st_store HT 2 0 36 (.tmp 6) (.tmp 20) rfl rfl rfl (.agg (#[.bool false, .bool false, .bool false, .bool false])) rfl (by exact size_fat) (Nat.le_refl 4) (by simp [Value.cells, Value.oneCell']) (#[.bool false, .bool false, .bool false, .bool false]) (by exact spl_agg _ _ _ rfl rfl) (fun W16 HSx => hKK _ _ ?_); clear hKK KK HT; have HT : St w6 noF [⟨g4, 36, #[.bool true, .bool false, .bool false, .bool false]⟩, ⟨g5, 36, #[.bool false, .bool true, .bool true, .bool false]⟩, ⟨g6, 36, #[.bool false, .bool false, .bool false, .bool false]⟩] W16 := HSx; clear HSx))
  have HF7 := Lib.hid (HF6.out.call HT.below)
  have HB7 := Lib.hid (HB6.out.trans (HT.below.mono HB6.out.size))
  have HR6 : Hid (Row W16 g6 36 #[.bool false, .bool false, .bool false, .bool false]) := Lib.hid (HT.row 2 rfl)
  have x0 : W16.cell? ⟨g4, 0, none⟩ = some (.bool true) := (HT.row 0 rfl).get rfl
  have x1 : W16.cell? ⟨g4, 1, none⟩ = some (.bool false) := (HT.row 0 rfl).get rfl
  have y1 : W16.cell? ⟨g5, 1, none⟩ = some (.bool true) := (HT.row 1 rfl).get rfl
  have y2 : W16.cell? ⟨g5, 2, none⟩ = some (.bool true) := (HT.row 1 rfl).get rfl
  have y0 : W16.cell? ⟨g5, 0, none⟩ = some (.bool false) := (HT.row 1 rfl).get rfl
  have q := fun w => eql_fat false false false false false false false false w
  have C8 := of_any 8 W16
  rw [fat_8] at C8
  clear HT
  go_wp2_with (first | ((with_reducible refine wplG_row 36 6 g6 36 (#[.bool false, .bool false, .bool false, .bool false]) (0, 0) _ ?_ ?_ ?_ Try.underlying36 ?_ ?_ ?_); exact rfl; exact rfl; exact HR6.out; exact rfl; exact size_fat))
  refine C8.mono ?_
  rintro e w8 ⟨rfl, hb⟩
  have HF8 := Lib.hid (HF7.out.call hb)
  have HB8 := Lib.hid (HB7.out.trans (hb.mono HB7.out.size))
  clear C8 hb x0 x1 y0 y1 y2 q
  have hfd : ∀ w : World, (Instr.field 36 (.agg #[.bool false, .bool false, .bool false, .bool true]) 3).run Try.prog w = .ok (.bool true) w := fun _ => by kernel_rfl
  have CL := all_any g1 [] w8 HF8.out (by decide)
  go_wp2_with fail
  refine CL.mono ?_
  rintro e w9 ⟨v, rfl, ho, hb⟩
  obtain ⟨A9, c9, rfl, _⟩ := own_slice_form ho
  have HB9 := Lib.hid (HB8.out.trans (hb.mono HB8.out.size))
  clear CL ho hb
  go_wp2_with fail
  go_ret
  exact ⟨rfl, HB9.out⟩
end Go.Proofs.Ytlncdokeecmnjaa
