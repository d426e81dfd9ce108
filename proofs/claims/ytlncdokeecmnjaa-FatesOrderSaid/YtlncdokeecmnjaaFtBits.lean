/- The statement FatesBits: its walk. -/
import Derived.Test.YtlncdokeecmnjaaFatWakes
set_option maxRecDepth 4000
namespace Go.Proofs.Ytlncdokeecmnjaa
open Go Go.RowKit
theorem fb_8 : ∀ x : BitVec 8, (bits .and .u8 (bd x) 1 == 1) = fb (bd x) 1 ∧ (bits .and .u8 (bd x) 2 == 2) = fb (bd x) 2 ∧ (bits .and .u8 (bd x) 4 == 4) = fb (bd x) 4 ∧ (bits .and .u8 (bd x) 8 == 8) = fb (bd x) 8 := by decide +kernel
theorem fb_low : ∀ x : BitVec 8, fb (bd x) 1 = fb (bd (x &&& 15#8)) 1 ∧ fb (bd x) 2 = fb (bd (x &&& 15#8)) 2 ∧ fb (bd x) 4 = fb (bd (x &&& 15#8)) 4 ∧ fb (bd x) 8 = fb (bd (x &&& 15#8)) 8 ∧ (bd x).tmod 16 = ((x &&& 15#8).toNat : Int) ∧ (x &&& 15#8).toNat < 16 := by decide +kernel
theorem fb_16 : ∀ i j : Fin 16, (fb (i.val : Int) 1 == fb (j.val : Int) 1 && (fb (i.val : Int) 2 == fb (j.val : Int) 2 && (fb (i.val : Int) 4 == fb (j.val : Int) 4 && fb (i.val : Int) 8 == fb (j.val : Int) 8))) = ((i.val : Int) == (j.val : Int)) := by decide +kernel
theorem fb_same (x y : BitVec 8) : (fb (bd x) 1 == fb (bd y) 1 && (fb (bd x) 2 == fb (bd y) 2 && (fb (bd x) 4 == fb (bd y) 4 && fb (bd x) 8 == fb (bd y) 8))) = ((bd x).tmod 16 == (bd y).tmod 16) := by
  obtain ⟨a1, a2, a3, a4, a5, a6⟩ := fb_low x
  obtain ⟨b1, b2, b3, b4, b5, b6⟩ := fb_low y
  rw [a1, a2, a3, a4, b1, b2, b3, b4, a5, b5]
  exact fb_16 ⟨_, a6⟩ ⟨_, b6⟩
set_option maxHeartbeats 400000 in
theorem ftbits_walk (x y : BitVec 8) (w : World) : Calls Try.prog 6 #[.int .u8 (bd x), .int .u8 (bd y)] w fun e w' => e = .returned (.bool true) ∧ Below w.heap.size w w' := by
  have C1 := Lib.hid (fun w => of_any (bd x) w)
  have C2 := Lib.hid (fun w => of_any (bd y) w)
  have hx0 : ¬ bd x < 0 := by have := bd_lo x; omega
  have hy0 : ¬ bd y < 0 := by have := bd_lo y; omega
  rw [fatC_pos hx0] at C1
  rw [fatC_pos hy0] at C2
  obtain ⟨h1, h2, h3, h4⟩ := fb_8 x
  have h16 := fb_same x y
  have hneg : -1 - bd x < 0 := by have := bd_lo x; omega
  have C3 := Lib.hid (fun w => of_any (-1 - bd x) w)
  rw [fatC_neg hneg] at C3
  have hwx : IntKind.i64.wrap (bd x) = bd x := by have := bd_lo x; have := bd_hi x; rw [IntKind.wrap_i64]; omega
  have hwy : IntKind.i64.wrap (bd y) = bd y := by have := bd_lo y; have := bd_hi y; rw [IntKind.wrap_i64]; omega
  have hwn : IntKind.i64.wrap (-1 - bd x) = -1 - bd x := by have := bd_lo x; have := bd_hi x; rw [IntKind.wrap_i64]; omega
  have hm1 : (bd x).tmod 16 = ((x &&& 15#8).toNat : Int) := (fb_low x).2.2.2.2.1
  have hm2 : (bd y).tmod 16 = ((y &&& 15#8).toNat : Int) := (fb_low y).2.2.2.2.1
  have hl1 := (fb_low x).2.2.2.2.2
  have hl2 := (fb_low y).2.2.2.2.2
  rw [hm1, hm2] at h16
  generalize (x &&& 15#8).toNat = xl at *
  generalize (y &&& 15#8).toNat = yl at *
  have hw1 : IntKind.u8.wrap (xl : Int) = (xl : Int) := by rw [IntKind.wrap_u8']; omega
  have hw2 : IntKind.u8.wrap (yl : Int) = (yl : Int) := by rw [IntKind.wrap_u8']; omega
  generalize fb (bd x) 1 = a1 at *
  generalize fb (bd x) 2 = a2 at *
  generalize fb (bd x) 4 = a3 at *
  generalize fb (bd x) 8 = a4 at *
  generalize fb (bd y) 1 = b1 at *
  generalize fb (bd y) 2 = b2 at *
  generalize fb (bd y) 4 = b3 at *
  generalize fb (bd y) 8 = b4 at *
  obtain ⟨D, hD⟩ : ∃ D, (a1 == b1 && (a2 == b2 && (a3 == b3 && a4 == b4))) = D := ⟨_, rfl⟩
  have q0 := fun w => eql_fat a1 a2 a3 a4 b1 b2 b3 b4 w
  rw [hD] at q0 h16
  have hD16 : ((xl : Int) == (yl : Int)) = D := h16.symm
  have HH := Lib.hid (And.intro h1 (And.intro h2 (And.intro h3 (And.intro h4 (And.intro hwn (And.intro hm1 (And.intro hm2 (And.intro hw1 (And.intro hw2 hD16)))))))))
  have HQ := Lib.hid q0
  clear hx0 hy0 h1 h2 h3 h4 h16 hneg hwn hm1 hm2 hl1 hl2 hw1 hw2 hD q0 hD16
  go_enter Try.func6, Try.ntmps6
  go_wp2_with fail
  refine (C1.out w).mono ?_
  rintro e w2 ⟨rfl, hb⟩
  have HB2 := Lib.hid hb
  clear hb C1
  go_wp2_with fail
  refine (C2.out w2).mono ?_
  rintro e w3 ⟨rfl, hb⟩
  have HB3 := Lib.hid (HB2.out.trans (hb.mono HB2.out.size))
  clear hb C2 HB2
  have HT := St.nil w3 noF
  go_upto_region 2 with (first | ((with_reducible refine wpList_plain ?_ ?_); exact rfl; intro KK hKK; refine wp_st_alloc HT 36 (#[.bool false, .bool false, .bool false, .bool false]) rfl (.agg (#[.bool false, .bool false, .bool false, .bool false])) (by kernel_rfl) (rfl) (fun g5 W1 HSx => hKK _ _ ?_); clear hKK KK HT; have HT : St w3 noF [⟨g5, 36, #[.bool false, .bool false, .bool false, .bool false]⟩] W1 := HSx; clear HSx) | ((with_reducible refine wpList_plain ?_ ?_); exact rfl; intro KK hKK; refine wp_st_alloc HT 36 (#[.bool false, .bool false, .bool false, .bool false]) rfl (.agg (#[.bool false, .bool false, .bool false, .bool false])) (by kernel_rfl) (rfl) (fun g6 W2 HSx => hKK _ _ ?_); clear hKK KK HT; have HT : St w3 noF [⟨g5, 36, #[.bool false, .bool false, .bool false, .bool false]⟩, ⟨g6, 36, #[.bool false, .bool false, .bool false, .bool false]⟩] W2 := HSx; clear HSx) | ((with_reducible refine wpList_plain ?_ ?_); exact rfl; intro KK hKK; refine wp_st_store HT 0 0 36 (.tmp 5) (.tmp 9) rfl rfl rfl (.agg (#[.bool a1, .bool a2, .bool a3, .bool a4])) rfl (by exact size_fat) (Nat.le_refl 4) (by simp [Value.cells, Value.oneCell']) (#[.bool a1, .bool a2, .bool a3, .bool a4]) (by exact spl_agg _ _ _ rfl rfl) (fun W3 HSx => hKK _ _ ?_); clear hKK KK HT; have HT : St w3 noF [⟨g5, 36, #[.bool a1, .bool a2, .bool a3, .bool a4]⟩, ⟨g6, 36, #[.bool false, .bool false, .bool false, .bool false]⟩] W3 := HSx; clear HSx) | ((with_reducible refine wpList_plain ?_ ?_); exact rfl; intro KK hKK; refine wp_st_store HT 1 0 36 (.tmp 6) (.tmp 12) rfl rfl rfl (.agg (#[.bool b1, .bool b2, .bool b3, .bool b4])) rfl (by exact size_fat) (Nat.le_refl 4) (by simp [Value.cells, Value.oneCell']) (#[.bool b1, .bool b2, .bool b3, .bool b4]) (by exact spl_agg _ _ _ rfl rfl) (fun W4 HSx => hKK _ _ ?_); clear hKK KK HT; have HT : St w3 noF [⟨g5, 36, #[.bool a1, .bool a2, .bool a3, .bool a4]⟩, ⟨g6, 36, #[.bool b1, .bool b2, .bool b3, .bool b4]⟩] W4 := HSx; clear HSx))
  have HR5 : Hid (Row W4 g5 36 (#[.bool a1, .bool a2, .bool a3, .bool a4])) := Lib.hid (HT.row 0 rfl)
  have HR6 : Hid (Row W4 g6 36 (#[.bool b1, .bool b2, .bool b3, .bool b4])) := Lib.hid (HT.row 1 rfl)
  have HB4 := Lib.hid (HB3.out.trans (HT.below.mono HB3.out.size))
  have e0 : W4.cell? ⟨g5, 0, none⟩ = some (.bool a1) := HR5.out.get rfl
  have e1 : W4.cell? ⟨g5, 1, none⟩ = some (.bool a2) := HR5.out.get rfl
  have e2 : W4.cell? ⟨g5, 2, none⟩ = some (.bool a3) := HR5.out.get rfl
  have e3 : W4.cell? ⟨g5, 3, none⟩ = some (.bool a4) := HR5.out.get rfl
  obtain ⟨h1, h2, h3, h4, hwn, hm1, hm2, hw1, hw2, hD16⟩ := HH.out
  have q0 := HQ.out
  clear HT
  go_wp2_with (first | ((with_reducible refine wplG_row 36 5 g5 36 (#[.bool a1, .bool a2, .bool a3, .bool a4]) (0, 0) _ ?_ ?_ ?_ Try.underlying36 ?_ ?_ ?_); exact rfl; exact rfl; exact HR5.out; exact rfl; exact size_fat) | ((with_reducible refine wplG_row 36 6 g6 36 (#[.bool b1, .bool b2, .bool b3, .bool b4]) (0, 0) _ ?_ ?_ ?_ Try.underlying36 ?_ ?_ ?_); exact rfl; exact rfl; exact HR6.out; exact rfl; exact size_fat))
  refine (C3.out _).mono ?_
  rintro e w5 ⟨rfl, hb⟩
  have HB5 := Lib.hid (HB4.out.trans (hb.mono HB4.out.size))
  clear e0 e1 e2 e3 h1 h2 h3 h4 hwn hm1 hm2 hw1 hw2 hD16 q0 hb C3
  have q := fun w => eql_fat false false false false false false false false w
  go_wp2_with fail
  clear q
  refine (ftwakes_any w5).mono ?_
  rintro e w6 ⟨rfl, hb⟩
  go_wp2_with fail
  go_ret
  exact ⟨rfl, HB5.out.trans (hb.mono HB5.out.size)⟩
end Go.Proofs.Ytlncdokeecmnjaa
