/- The example of names' statements. -/
import Derived.Test.YtnepjcpbahhngaaDoorNamesCut
set_option maxRecDepth 4000
namespace Go.Proofs.YtnepjcpbahhngaaDoor
open Go Go.RowKit
theorem lit_0 : (⟨#[100, 97, 116, 97]⟩ : ByteArray) = strB [100#8, 97#8, 116#8, 97#8] := by rw [strB_eq]; rfl
theorem lit_1 : (⟨#[97]⟩ : ByteArray) = strB [97#8] := by rw [strB_eq]; rfl
theorem lit_2 : (⟨#[68, 97, 116, 97]⟩ : ByteArray) = strB [68#8, 97#8, 116#8, 97#8] := by rw [strB_eq]; rfl
theorem lit_3 : (⟨#[]⟩ : ByteArray) = strB [] := by rw [strB_eq]; rfl
theorem lit_4 : (⟨#[97, 98, 99, 100, 101]⟩ : ByteArray) = strB [97#8, 98#8, 99#8, 100#8, 101#8] := by rw [strB_eq]; rfl
theorem lit_5 : (⟨#[97, 98]⟩ : ByteArray) = strB [97#8, 98#8] := by rw [strB_eq]; rfl
theorem nw_g1 (W : World) : Calls Tryd.prog 11 #[.slice (some ⟨W.heap.size, 0, none⟩) 2 2] (W.alloc (.cells #[.string ⟨#[100, 97, 116, 97]⟩, .string ⟨#[97]⟩] 9)) fun e w' => e = .returned (.bool true) ∧ Below W.heap.size W w' := by
  rw [lit_0, lit_1]
  refine (good_any [[100#8, 97#8, 116#8, 97#8], [97#8]] _ _ (strs2 W [100#8, 97#8, 116#8, 97#8] [97#8] (by unfold maxLen; simp) (by unfold maxLen; simp) 9) (by unfold maxLen; simp)).mono ?_
  rintro e w' ⟨rfl, hb⟩
  have hb1 := (Below.refl W.heap.size W).alloc (Nat.le_refl _) (.cells #[.string (strB [100#8, 97#8, 116#8, 97#8]), .string (strB [97#8])] 9)
  exact ⟨by rw [show goodNs [[100#8, 97#8, 116#8, 97#8], [97#8]] = true by decide], hb1.trans (hb.mono hb1.size)⟩
theorem nw_g2 (W : World) : Calls Tryd.prog 11 #[.slice (some ⟨W.heap.size, 0, none⟩) 2 2] (W.alloc (.cells #[.string ⟨#[100, 97, 116, 97]⟩, .string ⟨#[68, 97, 116, 97]⟩] 9)) fun e w' => e = .returned (.bool false) ∧ Below W.heap.size W w' := by
  rw [lit_0, lit_2]
  refine (good_any [[100#8, 97#8, 116#8, 97#8], [68#8, 97#8, 116#8, 97#8]] _ _ (strs2 W [100#8, 97#8, 116#8, 97#8] [68#8, 97#8, 116#8, 97#8] (by unfold maxLen; simp) (by unfold maxLen; simp) 9) (by unfold maxLen; simp)).mono ?_
  rintro e w' ⟨rfl, hb⟩
  have hb1 := (Below.refl W.heap.size W).alloc (Nat.le_refl _) (.cells #[.string (strB [100#8, 97#8, 116#8, 97#8]), .string (strB [68#8, 97#8, 116#8, 97#8])] 9)
  exact ⟨by rw [show goodNs [[100#8, 97#8, 116#8, 97#8], [68#8, 97#8, 116#8, 97#8]] = false by decide], hb1.trans (hb.mono hb1.size)⟩
theorem nw_g3 (W : World) : Calls Tryd.prog 11 #[.slice (some ⟨W.heap.size, 0, none⟩) 1 1] (W.alloc (.cells #[.string ⟨#[]⟩] 9)) fun e w' => e = .returned (.bool false) ∧ Below W.heap.size W w' := by
  rw [lit_3]
  refine (good_any [[]] _ _ (strs1 W [] (by unfold maxLen; simp) 9) (by unfold maxLen; simp)).mono ?_
  rintro e w' ⟨rfl, hb⟩
  have hb1 := (Below.refl W.heap.size W).alloc (Nat.le_refl _) (.cells #[.string (strB [])] 9)
  exact ⟨by rw [show goodNs [[]] = false by decide], hb1.trans (hb.mono hb1.size)⟩
theorem nw_g4 (W : World) : Calls Tryd.prog 11 #[.slice (some ⟨W.heap.size, 0, none⟩) 1 1] (W.alloc (.cells #[.string ⟨#[97, 98, 99, 100, 101]⟩] 9)) fun e w' => e = .returned (.bool false) ∧ Below W.heap.size W w' := by
  rw [lit_4]
  refine (good_any [[97#8, 98#8, 99#8, 100#8, 101#8]] _ _ (strs1 W [97#8, 98#8, 99#8, 100#8, 101#8] (by unfold maxLen; simp) 9) (by unfold maxLen; simp)).mono ?_
  rintro e w' ⟨rfl, hb⟩
  have hb1 := (Below.refl W.heap.size W).alloc (Nat.le_refl _) (.cells #[.string (strB [97#8, 98#8, 99#8, 100#8, 101#8])] 9)
  exact ⟨by rw [show goodNs [[97#8, 98#8, 99#8, 100#8, 101#8]] = false by decide], hb1.trans (hb.mono hb1.size)⟩
theorem nw_p (W : World) : Calls Tryd.prog 13 #[.string ⟨#[97, 98]⟩] W fun e w' => e = .returned (.agg (bs (padN [97#8, 98#8]))) ∧ Below W.heap.size W w' := by
  rw [lit_5]; exact pad_any _ W
theorem nw_c1 (W : World) : Calls Tryd.prog 9 #[.agg (bs (padN [97#8, 98#8]))] W fun e w' => e = .returned (.tuple #[.string ⟨#[97, 98]⟩, .bool true]) ∧ Below W.heap.size W w' := by
  have C := cut_any (padN [97#8, 98#8]) W (length_padN _)
  rw [cut_pad (by decide)] at C
  rw [lit_5]; exact C
theorem nw_c2 (W : World) : Calls Tryd.prog 9 #[.agg #[.int .u8 0, .int .u8 97, .int .u8 0, .int .u8 0]] W fun e w' => e = .returned (.tuple #[.string ⟨#[]⟩, .bool false]) ∧ Below W.heap.size W w' := by
  have C := cut_any [0#8, 97#8, 0#8, 0#8] W rfl
  rw [show cutN [0#8, 97#8, 0#8, 0#8] = ([], false) by decide] at C
  rw [str_lit0]; exact C
theorem nw_c3 (W : World) : Calls Tryd.prog 9 #[.agg #[.int .u8 0, .int .u8 0, .int .u8 0, .int .u8 0]] W fun e w' => e = .returned (.tuple #[.string ⟨#[]⟩, .bool true]) ∧ Below W.heap.size W w' := by
  have C := cut_any [0#8, 0#8, 0#8, 0#8] W rfl
  rw [show cutN [0#8, 0#8, 0#8, 0#8] = ([], true) by decide] at C
  rw [str_lit0]; exact C
set_option maxHeartbeats 1600000 in
theorem nwakes_any (w : World) : Calls Tryd.prog 8 #[] w fun e w' => e = .returned (.bool true) ∧ Below w.heap.size w w' := by
  obtain ⟨P, hP⟩ : ∃ P, padN [97#8, 98#8] = P := ⟨_, rfl⟩
  have HP := Lib.hid nw_p
  have HC1 := Lib.hid nw_c1
  have HC2 := Lib.hid nw_c2
  have HC3 := Lib.hid nw_c3
  rw [hP] at HP HC1
  clear hP
  have HG1 := Lib.hid nw_g1
  have HG2 := Lib.hid nw_g2
  have HG3 := Lib.hid nw_g3
  have HG4 := Lib.hid nw_g4
  have hs0 : ((⟨#[97, 98]⟩ : ByteArray).toList == (⟨#[97, 98]⟩ : ByteArray).toList) = true := beq_self_eq_true _
  have hs1 : ((⟨#[]⟩ : ByteArray).toList == (⟨#[]⟩ : ByteArray).toList) = true := beq_self_eq_true _
  go_enter Tryd.func8, Tryd.ntmps8
  go_wp2_with fail
  refine (HP.out _).mono ?_
  rintro e w1 ⟨rfl, hbw1⟩
  have HB1 := Lib.hid hbw1
  clear hbw1
  go_wp2_with fail
  refine (HC1.out _).mono ?_
  rintro e w2 ⟨rfl, hbw2⟩
  have HB2 := Lib.hid (HB1.out.trans (hbw2.mono HB1.out.size))
  clear hbw2 HB1
  go_wp2_with fail
  refine (HC2.out _).mono ?_
  rintro e w3 ⟨rfl, hbw3⟩
  have HB3 := Lib.hid (HB2.out.trans (hbw3.mono HB2.out.size))
  clear hbw3 HB2
  go_wp2_with fail
  refine (HC3.out _).mono ?_
  rintro e w4 ⟨rfl, hbw4⟩
  have HB4 := Lib.hid (HB3.out.trans (hbw4.mono HB3.out.size))
  clear hbw4 HB3
  go_wp2_with fail
  refine (HG1.out _).mono ?_
  rintro e w5 ⟨rfl, hbw5⟩
  have HB5 := Lib.hid (HB4.out.trans (hbw5.mono HB4.out.size))
  clear hbw5 HB4
  go_wp2_with fail
  refine (HG2.out _).mono ?_
  rintro e w6 ⟨rfl, hbw6⟩
  have HB6 := Lib.hid (HB5.out.trans (hbw6.mono HB5.out.size))
  clear hbw6 HB5
  go_wp2_with fail
  refine (HG3.out _).mono ?_
  rintro e w7 ⟨rfl, hbw7⟩
  have HB7 := Lib.hid (HB6.out.trans (hbw7.mono HB6.out.size))
  clear hbw7 HB6
  go_wp2_with fail
  refine (HG4.out _).mono ?_
  rintro e w8 ⟨rfl, hbw8⟩
  have HB8 := Lib.hid (HB7.out.trans (hbw8.mono HB7.out.size))
  clear hbw8 HB7
  go_wp2_with fail
  go_ret
  exact ⟨rfl, HB8.out⟩
end Go.Proofs.YtnepjcpbahhngaaDoor
