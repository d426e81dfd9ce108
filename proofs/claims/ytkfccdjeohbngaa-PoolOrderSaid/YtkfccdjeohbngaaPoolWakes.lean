/- The example of pool's statements. -/
import Derived.Test.YtkfccdjeohbngaaPoolTake
import Derived.Test.YtkfccdjeohbngaaVolOwn
import Derived.Test.YtkfccdjeohbngaaKeepInts
set_option maxRecDepth 4000
namespace Go.Proofs.Ytkfccdjeohbngaa
open Go Go.RowKit
def exV : List Vl := [(⟨#[97]⟩, [1, 3])]
theorem exv_use : usedV exV = 11#16 ∧ usedV [] = 1#16 := by decide +kernel
theorem exv_free : (freeL 11#16).length = 9 ∧ (freeL 1#16).length = 11 := by decide +kernel
theorem exv_take : takeV 11#16 2 = [2, 4] ∧ takeE 11#16 2 = 0 := by decide +kernel
theorem ints_two (w : World) (a b : Int) (ha : -9223372036854775808 ≤ a ∧ a < 9223372036854775808) (hb : -9223372036854775808 ≤ b ∧ b < 9223372036854775808) : IntsAt (w.alloc (.cells #[.int .i64 a, .int .i64 b] 3)) (.slice (some ⟨w.heap.size, 0, none⟩) 2 2) [a, b] :=
  ints_own (base := w.heap.size) ⟨rfl, .inr ⟨w.heap.size, 2, #[.int .i64 a, .int .i64 b], rfl, Nat.le_refl _, heap_alloc_new w _, Nat.le_refl _, by unfold maxLen; omega, rfl, rfl⟩⟩ (by simp only [List.mem_cons, List.not_mem_nil, or_false]; rintro x (rfl | rfl) <;> assumption)
set_option maxHeartbeats 1600000 in
theorem plwakes_any (w : World) : Calls Try.prog 8 #[] w fun e w' => e = .returned (.bool true) ∧ Below w.heap.size w w' := by
  have HI0 := Lib.hid (ints_two w 1 3 (by omega) (by omega))
  have HB0 : Hid (Below w.heap.size w (w.alloc (.cells #[.int .i64 1, .int .i64 3] 3))) := Lib.hid ((Below.refl _ _).alloc (Nat.le_refl _) _)
  have HS := St.nil (w.alloc (.cells #[.int .i64 1, .int .i64 3] 3)) noF
  go_enter Try.func8, Try.ntmps8
  go_upto_region 1 with fail
  go_upto_region 2 with (first | ((with_reducible refine wpList_plain ?_ ?_); exact rfl; intro KK hKK; refine wp_st_alloc HS 42 (#[.string ⟨#[]⟩, .slice none 0 0]) rfl (.agg (#[.string ⟨#[]⟩, .slice none 0 0])) (by kernel_rfl) (rfl) (fun g1 W1 HSx => hKK _ _ ?_); clear hKK KK HS; have HS : St (w.alloc (.cells #[.int .i64 1, .int .i64 3] 3)) noF [⟨g1, 42, #[.string ⟨#[]⟩, .slice none 0 0]⟩] W1 := HSx; clear HSx) | ((with_reducible refine wpList_plain ?_ ?_); exact rfl; intro KK hKK; refine wp_st_store HS 0 0 42 (.tmp 1) (.tmp 5) rfl rfl rfl (.agg (#[.string ⟨#[97]⟩, .slice (some ⟨w.heap.size, 0, none⟩) 2 2])) rfl (by exact size_vol) (Nat.le_refl 2) (by simp [Value.cells, Value.oneCell']) (#[.string ⟨#[97]⟩, .slice (some ⟨w.heap.size, 0, none⟩) 2 2]) (by exact spl_agg _ _ _ rfl rfl) (fun W2 HSx => hKK _ _ ?_); clear hKK KK HS; have HS : St (w.alloc (.cells #[.int .i64 1, .int .i64 3] 3)) noF [⟨g1, 42, #[.string ⟨#[97]⟩, .slice (some ⟨w.heap.size, 0, none⟩) 2 2]⟩] W2 := HSx; clear HSx))
  have HR : Hid (Row W2 g1 42 (#[.string ⟨#[97]⟩, .slice (some ⟨w.heap.size, 0, none⟩) 2 2])) := Lib.hid (HS.row 0 rfl)
  have HB1 := Lib.hid (HB0.out.trans (HS.below.mono HB0.out.size))
  have HI1 := Lib.hid (HI0.out.below HS.below (Nat.le_refl _))
  clear HS HI0 HB0
  obtain ⟨g0, hg0⟩ : ∃ g0, w.heap.size = g0 := ⟨_, rfl⟩
  have HG := Lib.hid hg0
  rw [hg0] at HR HI1
  clear hg0
  have HVL : Hid (∀ W', Below W2.heap.size W2 W' → VolsAt (W'.alloc (.cells (#[.string ⟨#[97]⟩, .slice (some ⟨g0, 0, none⟩) 2 2]) 42)) (.slice (some ⟨W'.heap.size, 0, none⟩) 1 1) exV ∧ Below W2.heap.size W2 (W'.alloc (.cells (#[.string ⟨#[97]⟩, .slice (some ⟨g0, 0, none⟩) 2 2]) 42))) := Lib.hid fun W' hb => by
    have hb2 := hb.alloc hb.size (.cells (#[.string ⟨#[97]⟩, .slice (some ⟨g0, 0, none⟩) 2 2]) 42)
    exact ⟨vols_lit (Row.fresh W' 42 (#[.string ⟨#[97]⟩, .slice (some ⟨g0, 0, none⟩) 2 2])) (HI1.out.below hb2 (Nat.le_refl _)) (by decide), hb2⟩
  have HU := Lib.hid exv_use
  have HFR := Lib.hid exv_free
  have HTK := Lib.hid exv_take
  have HX1 : Hid (∀ x ∈ exV, x.2.length ≤ 1000000) := Lib.hid (by simp [exV])
  have hv0 := HVL.out W2 (Below.refl _ _)
  have T0 := take_any 2 _ 1 1 exV _ hv0.1 (by omega) HX1.out (by omega)
  rw [HU.out.1, HTK.out.1, HTK.out.2] at T0
  go_wp2_with (first | ((with_reducible refine wpList_plain ?_ ?_); exact rfl; intro KK hKK; refine wp_load_mid 42 (.tmp 1) rfl g1 0 rfl [.string ⟨#[97]⟩, .slice (some ⟨g0, 0, none⟩) 2 2] _ (HR.out.slab 0 _ rfl) Try.underlying42 rfl (by exact size_vol) (hKK _ _ ?_); clear hKK KK))
  refine T0.mono ?_
  rintro e w3 ⟨v3, rfl, ho3, hb3⟩
  have HB3 : Hid (Below W2.heap.size W2 w3) := Lib.hid (hv0.2.trans (hb3.mono hv0.2.size))
  have HO3 := Lib.hid ho3
  clear ho3 hb3 T0 hv0
  obtain ⟨A3, c3, rfl, _⟩ := own_slice_form HO3.out
  have HR3 := Lib.hid (HR.out.call HB3.out)
  have hv3 := HVL.out w3 HB3.out
  have U3 := used_any _ 1 1 exV _ hv3.1 (by omega) HX1.out
  rw [HU.out.1] at U3
  go_wp2_with (first | ((with_reducible refine wpList_plain ?_ ?_); exact rfl; intro KK hKK; refine wp_load_mid 42 (.tmp 1) rfl g1 0 rfl [.string ⟨#[97]⟩, .slice (some ⟨g0, 0, none⟩) 2 2] _ (HR3.out.slab 0 _ rfl) Try.underlying42 rfl (by exact size_vol) (hKK _ _ ?_); clear hKK KK))
  refine U3.mono ?_
  rintro e w4 ⟨rfl, hb4⟩
  have HB4 : Hid (Below W2.heap.size W2 w4) := Lib.hid (hv3.2.trans (hb4.mono hv3.2.size))
  have HB34 : Hid (Below w3.heap.size w3 w4) := Lib.hid (((Below.refl _ _).alloc (Nat.le_refl _) _).trans (hb4.mono (by simp)))
  clear hb4 U3 hv3
  have HR4 := Lib.hid (HR.out.call HB4.out)
  have hv4 := HVL.out w4 HB4.out
  have F4 := free_any _ 1 1 exV _ hv4.1 (by omega) HX1.out
  rw [HU.out.1, HFR.out.1] at F4
  go_wp2_with (first | ((with_reducible refine wpList_plain ?_ ?_); exact rfl; intro KK hKK; refine wp_load_mid 42 (.tmp 1) rfl g1 0 rfl [.string ⟨#[97]⟩, .slice (some ⟨g0, 0, none⟩) 2 2] _ (HR4.out.slab 0 _ rfl) Try.underlying42 rfl (by exact size_vol) (hKK _ _ ?_); clear hKK KK) | ((with_reducible refine wplG_row 42 1 g1 42 (#[.string ⟨#[97]⟩, .slice (some ⟨g0, 0, none⟩) 2 2]) (0, 0) _ ?_ ?_ ?_ Try.underlying42 ?_ ?_ ?_); exact rfl; exact rfl; exact HR4.out; exact rfl; exact size_vol))
  refine F4.mono ?_
  rintro e w5 ⟨rfl, hb5⟩
  have HB5 : Hid (Below W2.heap.size W2 w5) := Lib.hid (hv4.2.trans (hb5.mono hv4.2.size))
  have HB35 : Hid (Below w3.heap.size w3 w5) := Lib.hid (HB34.out.trans ((((Below.refl _ _).alloc (Nat.le_refl _) _).trans (hb5.mono (by simp))).mono HB34.out.size))
  clear hb5 F4 hv4
  have F5 := free_any none 0 0 [] w5 (vols_none w5) (by omega) (by simp)
  rw [HU.out.2, HFR.out.2] at F5
  go_wp2_with fail
  refine F5.mono ?_
  rintro e w6 ⟨rfl, hb6⟩
  have HB6 : Hid (Below W2.heap.size W2 w6) := Lib.hid (HB5.out.trans (hb6.mono HB5.out.size))
  have HB36 : Hid (Below w3.heap.size w3 w6) := Lib.hid (HB35.out.trans (hb6.mono HB35.out.size))
  clear hb6 F5
  have HAL : Hid (Below w6.heap.size w6 (w6.alloc (.cells #[.int .i64 2, .int .i64 4] 3))) := Lib.hid ((Below.refl _ _).alloc (Nat.le_refl _) _)
  have K6 := keepints_any [2, 4] [2, 4] A3 _ 2 2 c3 2 (w6.alloc (.cells #[.int .i64 2, .int .i64 4] 3)) ((ints_own (n := 2) HO3.out (by simp)).below (HB36.out.trans (HAL.out.mono HB36.out.size)) (Nat.le_refl _)) (ints_two w6 2 4 (by omega) (by omega)) (by omega)
  rw [decide_eq_true rfl] at K6
  go_wp2_with fail
  refine K6.mono ?_
  rintro e w7 ⟨rfl, hb7⟩
  have HB7 : Hid (Below W2.heap.size W2 w7) := Lib.hid ((HB6.out.trans (HAL.out.mono HB6.out.size)).trans (hb7.mono (Nat.le_trans HB6.out.size HAL.out.size)))
  clear hb7 K6
  go_wp2_with fail
  go_ret
  exact ⟨rfl, HB1.out.trans (HB7.out.mono HB1.out.size)⟩
end Go.Proofs.Ytkfccdjeohbngaa
