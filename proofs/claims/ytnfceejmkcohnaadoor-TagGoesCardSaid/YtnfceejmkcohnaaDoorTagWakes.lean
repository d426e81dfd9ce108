/- The chapter's examples of tag, asked by the statements. -/
import Derived.Test.YtnfceejmkcohnaaDoorChain
import Derived.Test.YtnfceejmkcohnaaDoorSame
import Derived.Test.YtnfceejmkcohnaaDoorLit
import Derived.Test.YtnfceejmkcohnaaDoorTagEval
import Derived.Test.YtnfceejmkcohnaaDoorEq
namespace Go.Proofs.YtnfceejmkcohnaaDoor
open Go Go.RowKit
theorem eql_ne01 (w : World) : (Op.equalIn 10000 24 (.agg (bs lnk0)) (.agg (bs lnk1))).run Tryd.prog w = .ok false w := by kernel_rfl
theorem ab_call (w : World) (hT : Tab w) : Calls Tryd.prog 9 #[.agg (bs (zer 32)), .slice (some ⟨w.heap.size + 1 + 1 + 1, 0, none⟩) 2 2]
    ((((w.alloc (.cells (bs (zer 32)) 24)).alloc (.cells #[.int .u8 97] 5 (1, 2))).alloc (.cells #[.int .u8 98] 5 (1, 2))).alloc (.cells #[.slice (some ⟨w.heap.size + 1, 0, none⟩) 1 1, .slice (some ⟨w.heap.size + 1 + 1, 0, none⟩) 1 1] 22))
    fun e w' => ∃ u, e = .returned u ∧ Digs w' u [lnk0, lnk1] ∧ Row w' w.heap.size 24 (bs (zer 32)) ∧ Below w.heap.size w w' := by
  have h2 : Slice (((w.alloc (.cells (bs (zer 32)) 24)).alloc (.cells #[.int .u8 97] 5 (1, 2))).alloc (.cells #[.int .u8 98] 5 (1, 2))) (.slice (some ⟨w.heap.size + 1, 0, none⟩) 1 1) [97#8] := bytes_slice (q := [97#8]) (t := 5) (fr := (1, 2)) (by rw [Below.heap_alloc _ _ _ (by simp), heap_alloc2_new]; rfl) (by simp)
  have h3 : Slice (((w.alloc (.cells (bs (zer 32)) 24)).alloc (.cells #[.int .u8 97] 5 (1, 2))).alloc (.cells #[.int .u8 98] 5 (1, 2))) (.slice (some ⟨w.heap.size + 1 + 1, 0, none⟩) 1 1) [98#8] := bytes_slice (q := [98#8]) (t := 5) (fr := (1, 2)) (by
    have e : w.heap.size + 1 + 1 = ((w.alloc (.cells (bs (zer 32)) 24)).alloc (.cells #[.int .u8 97] 5 (1, 2))).heap.size := by simp
    rw [e, heap_alloc_new]; rfl) (by simp)
  have hr := row3a w 24 (bs (zer 32)) (.cells #[.int .u8 97] 5 (1, 2)) (.cells #[.int .u8 98] 5 (1, 2))
  have hb := below3 w (.cells (bs (zer 32)) 24) (.cells #[.int .u8 97] 5 (1, 2)) (.cells #[.int .u8 98] 5 (1, 2))
  have hs : (((w.alloc (.cells (bs (zer 32)) 24)).alloc (.cells #[.int .u8 97] 5 (1, 2))).alloc (.cells #[.int .u8 98] 5 (1, 2))).heap.size = w.heap.size + 1 + 1 + 1 := by simp
  generalize ((w.alloc (.cells (bs (zer 32)) 24)).alloc (.cells #[.int .u8 97] 5 (1, 2))).alloc (.cells #[.int .u8 98] 5 (1, 2)) = W at *
  have hP := parts2 h2 h3
  rw [hs] at hP
  have hbx := (Below.refl W.heap.size W).alloc (Nat.le_refl _) (.cells #[.slice (some ⟨w.heap.size + 1, 0, none⟩) 1 1, .slice (some ⟨w.heap.size + 1 + 1, 0, none⟩) 1 1] 22)
  refine (chain_any (zer 32) [[97#8], [98#8]] _ _ (hT.below (hb.trans (hbx.mono hb.size)) hT.pos) rfl hP (by simp) (by simp)).mono ?_
  rintro e w' ⟨u, rfl, hD, hb'⟩
  rw [show ([[97#8], [98#8]] : List (List (BitVec 8))).length = 2 from rfl, chain_ab] at hD
  exact ⟨u, rfl, hD, (hr.call hbx).call hb', (hb.trans (hbx.mono hb.size)).trans (hb'.mono (Nat.le_trans hb.size (by simp)))⟩
set_option maxRecDepth 20000 in
set_option maxHeartbeats 3200000 in
theorem twakes_any (w : World) (hT : Tab w) : Calls Tryd.prog 8 #[] w fun e w' => e = .returned (.bool true) ∧ Below w.heap.size w w' := by
  have HT := Lib.hid hT
  clear hT
  have hcv := fun (W : World) (C : Array Value) (n c : Nat) => Lib.run_convert_bytes_const (P := Tryd.prog) W 22 5 C n c Tryd.underlying22 Tryd.underlying5
  have hc2 := conv2
  have hc3 := conv3
  go_enter Tryd.func8, Tryd.ntmps8
  go_wp2_with (first | (refine wpList_load_row rfl 24 (.tmp 1) rfl w.heap.size rfl 24 (bs (zer 32)) (0, 0) _ (Row.fresh _ _ _) Tryd.underlying24 rfl size_d ?_))
  refine (ab_call w HT.out).mono ?_
  rintro e w1 ⟨u, rfl, hD, rz, hb01⟩
  clear hcv hc2 hc3
  obtain ⟨A, c, rfl, hD⟩ := hD
  obtain ⟨b, o, rfl, _, hr⟩ := hD (by simp)
  have r0 : w1.rangeAt b o (bs lnk0).toList := by simpa using hr 0 lnk0 rfl
  have r1 : w1.rangeAt b (o + 32) (bs lnk1).toList := by simpa using hr 1 lnk1 rfl
  clear hr hD
  go_wp2_with fail
  refine wp_region_vs (w1.heap.size) [(lit w1.heap.size [97#8, 98#8]), (lit w1.heap.size [97#8, 98#8]), (lit w1.heap.size [97#8, 98#8]), (lit w1.heap.size [97#8, 98#8]), is (.bool true), is (.bool true), (lit w1.heap.size [97#8]), (lit w1.heap.size [97#8]), is (.bool false), is (.bool true), is (.bool true), is (.bool true), (lit w1.heap.size []), is (.bool true), is (.bool true), is (.bool true), is (.slice (some ⟨b, o, none⟩) 2 c), is (.int .i64 2), is (.bool true), is (.bool true), is (.bool true), is (.slice (some ⟨b, o, none⟩) 2 c), is (.pointer (some ⟨b, o, none⟩)), is (.agg (bs lnk0)), is (.slice (some ⟨w.heap.size, 0, none⟩) 32 32), (lit w1.heap.size [97#8]), (lit w1.heap.size [97#8]), pts [zer 32, [97#8]], is (.agg (bs lnk0)), is (.bool true), is (.bool true), is (.bool true), is (.slice (some ⟨b, o, none⟩) 2 c), is (.pointer (some ⟨b, o + 32, none⟩)), is (.agg (bs lnk1)), is (.slice (some ⟨b, o, none⟩) 2 c), is (.pointer (some ⟨b, o, none⟩)), is (.agg (bs lnk0)), (lit w1.heap.size [98#8]), (lit w1.heap.size [98#8]), pts [[98#8]], is (.agg (bs lnk1)), is (.bool true), is (.bool true), is (.bool true), is (.slice (some ⟨b, o, none⟩) 2 c), is (.pointer (some ⟨b, o, none⟩)), is (.agg (bs lnk0)), is (.slice (some ⟨b, o, none⟩) 2 c), is (.pointer (some ⟨b, o + 32, none⟩)), is (.agg (bs lnk1)), is (.bool true), is (.bool true), is (.bool true)] [some 10, some 11, some 12, some 13, some 14, some 15, some 16, some 17, some 18, some 19, some 20, some 21, some 22, some 23, some 24, some 25, some 26, some 27, some 28, some 29, some 30, some 31, some 32, some 33, some 34, some 35, some 36, some 37, some 38, some 39, some 40, some 41, some 42, some 43, some 44, some 45, some 46, some 47, some 48, some 49, some 50, some 51, some 52, some 53, some 54, some 55, some 56, some 57, some 58, some 59, some 60, some 61, some 62, some 0] 54 54 (fun _ => true) rfl rfl rfl (by kernel_rfl) (by kernel_rfl) ?_ ?_ ?_ ?_
  · repeat first | exact stays_nil _ | refine stays_cons (by first | exact is_stays _ _ | exact lit_stays _ _ | exact sl_stays _ _ | exact pts_stays _ _ | exact hnd_stays _ _ | exact any_stays _) ?_
  · repeat first | exact all_end (by decide) | refine all_cons (by first | exact rfl | exact fun _ _ _ h => h) ?_
  · refine all_step rfl (fun a x W hR hout hin => ?_) ?_
    · clear hin hout
      intro K Q hK
      go_simp
      exact hK _ _ ⟨Keeps.alloc _ _ hR.below.size, lit_new W [97#8, 98#8] hR.below.size⟩
    refine all_step rfl (fun a x W hR hout hin => ?_) ?_
    · obtain ⟨v10, e10, hv10⟩ := hin.get 0 10 (by kernel_rfl) (by decide) (by kernel_rfl)
      exact does_conv rfl e10 hv10 fun w' h1 h2 => ⟨h1, h2⟩
    refine all_step rfl (fun a x W hR hout hin => ?_) ?_
    · clear hin hout
      intro K Q hK
      go_simp
      exact hK _ _ ⟨Keeps.alloc _ _ hR.below.size, lit_new W [97#8, 98#8] hR.below.size⟩
    refine all_step rfl (fun a x W hR hout hin => ?_) ?_
    · obtain ⟨v12, e12, hv12⟩ := hin.get 2 12 (by kernel_rfl) (by decide) (by kernel_rfl)
      exact does_conv rfl e12 hv12 fun w' h1 h2 => ⟨h1, h2⟩
    refine all_step rfl (fun a x W hR hout hin => ?_) ?_
    · obtain ⟨v11, e11, hv11⟩ := hin.get 1 11 (by kernel_rfl) (by decide) (by kernel_rfl)
      obtain ⟨v13, e13, hv13⟩ := hin.get 3 13 (by kernel_rfl) (by decide) (by kernel_rfl)
      clear hin hout
      intro K Q hK
      go_simp
      refine (same_any [97#8, 98#8] [97#8, 98#8] v11 v13 W (lit_sl hv11) (lit_sl hv13) (by decide) (by decide)).mono ?_
      rintro e W' ⟨rfl, rfl⟩
      exact hK _ _ ⟨Keeps.refl _ _, rfl⟩
    refine all_step rfl (fun a x W hR hout hin => ?_) ?_
    · have e14 := hin.is 4 14 (by kernel_rfl) (by decide) (by kernel_rfl) _ rfl
      exact does_move rfl e14 ⟨Keeps.refl _ _, rfl⟩
    refine all_step rfl (fun a x W hR hout hin => ?_) ?_
    · clear hin hout
      intro K Q hK
      go_simp
      exact hK _ _ ⟨Keeps.alloc _ _ hR.below.size, lit_new W [97#8] hR.below.size⟩
    refine all_step rfl (fun a x W hR hout hin => ?_) ?_
    · obtain ⟨v16, e16, hv16⟩ := hin.get 6 16 (by kernel_rfl) (by decide) (by kernel_rfl)
      exact does_conv rfl e16 hv16 fun w' h1 h2 => ⟨h1, h2⟩
    refine all_step rfl (fun a x W hR hout hin => ?_) ?_
    · obtain ⟨v17, e17, hv17⟩ := hin.get 7 17 (by kernel_rfl) (by decide) (by kernel_rfl)
      clear hin hout
      intro K Q hK
      go_simp
      refine (same_any [97#8] [] v17 _ W (lit_sl hv17) (slice_nil W) (by decide) (by decide)).mono ?_
      rintro e W' ⟨rfl, rfl⟩
      exact hK _ _ ⟨Keeps.refl _ _, rfl⟩
    refine all_step rfl (fun a x W hR hout hin => ?_) ?_
    · have e18 := hin.is 8 18 (by kernel_rfl) (by decide) (by kernel_rfl) _ rfl
      exact does_not rfl e18 ⟨Keeps.refl _ _, rfl⟩
    refine all_step rfl (fun a x W hR hout hin => ?_) ?_
    · have e15 := hin.is 5 15 (by kernel_rfl) (by decide) (by kernel_rfl) _ rfl
      have e19 := hin.is 9 19 (by kernel_rfl) (by decide) (by kernel_rfl) _ rfl
      exact does_pick rfl e15 ⟨Keeps.refl _ _, eval_of_get e19⟩
    refine all_step rfl (fun a x W hR hout hin => ?_) ?_
    · have e20 := hin.is 10 20 (by kernel_rfl) (by decide) (by kernel_rfl) _ rfl
      exact does_move rfl e20 ⟨Keeps.refl _ _, rfl⟩
    refine all_step rfl (fun a x W hR hout hin => ?_) ?_
    · clear hin hout
      intro K Q hK
      go_simp
      exact hK _ _ ⟨Keeps.alloc _ _ hR.below.size, lit_new W [] hR.below.size⟩
    refine all_step rfl (fun a x W hR hout hin => ?_) ?_
    · obtain ⟨v22, e22, hv22⟩ := hin.get 12 22 (by kernel_rfl) (by decide) (by kernel_rfl)
      clear hin hout
      intro K Q hK
      go_simp
      refine (same_any [] [] _ v22 W (slice_nil W) (lit_sl hv22) (by decide) (by decide)).mono ?_
      rintro e W' ⟨rfl, rfl⟩
      exact hK _ _ ⟨Keeps.refl _ _, rfl⟩
    refine all_step rfl (fun a x W hR hout hin => ?_) ?_
    · have e21 := hin.is 11 21 (by kernel_rfl) (by decide) (by kernel_rfl) _ rfl
      have e23 := hin.is 13 23 (by kernel_rfl) (by decide) (by kernel_rfl) _ rfl
      exact does_pick rfl e21 ⟨Keeps.refl _ _, eval_of_get e23⟩
    refine all_step rfl (fun a x W hR hout hin => ?_) ?_
    · have e24 := hin.is 14 24 (by kernel_rfl) (by decide) (by kernel_rfl) _ rfl
      exact does_move rfl e24 ⟨Keeps.refl _ _, rfl⟩
    refine all_step rfl (fun a x W hR hout hin => ?_) ?_
    · have e2 : a.tmps[2]? = some (.slice (some ⟨b, o, none⟩) 2 c) := (hout 2 (by kernel_rfl)).trans rfl
      exact does_move rfl e2 ⟨Keeps.refl _ _, rfl⟩
    refine all_step rfl (fun a x W hR hout hin => ?_) ?_
    · have e26 := hin.is 16 26 (by kernel_rfl) (by decide) (by kernel_rfl) _ rfl
      clear hin hout
      intro K Q hK
      go_simp
      exact hK _ _ ⟨Keeps.refl _ _, rfl⟩
    refine all_step rfl (fun a x W hR hout hin => ?_) ?_
    · have e27 := hin.is 17 27 (by kernel_rfl) (by decide) (by kernel_rfl) _ rfl
      clear hin hout
      intro K Q hK
      go_simp
      exact hK _ _ ⟨Keeps.refl _ _, rfl⟩
    refine all_step rfl (fun a x W hR hout hin => ?_) ?_
    · have e25 := hin.is 15 25 (by kernel_rfl) (by decide) (by kernel_rfl) _ rfl
      have e28 := hin.is 18 28 (by kernel_rfl) (by decide) (by kernel_rfl) _ rfl
      exact does_pick rfl e25 ⟨Keeps.refl _ _, eval_of_get e28⟩
    refine all_step rfl (fun a x W hR hout hin => ?_) ?_
    · have e29 := hin.is 19 29 (by kernel_rfl) (by decide) (by kernel_rfl) _ rfl
      exact does_move rfl e29 ⟨Keeps.refl _ _, rfl⟩
    refine all_step rfl (fun a x W hR hout hin => ?_) ?_
    · have e2 : a.tmps[2]? = some (.slice (some ⟨b, o, none⟩) 2 c) := (hout 2 (by kernel_rfl)).trans rfl
      exact does_move rfl e2 ⟨Keeps.refl _ _, rfl⟩
    refine all_step rfl (fun a x W hR hout hin => ?_) ?_
    · have e31 := hin.is 21 31 (by kernel_rfl) (by decide) (by kernel_rfl) _ rfl
      clear hin hout
      intro K Q hK
      go_simp
      exact hK _ _ ⟨Keeps.refl _ _, rfl⟩
    refine all_step rfl (fun a x W hR hout hin => ?_) ?_
    · have e32 := hin.is 22 32 (by kernel_rfl) (by decide) (by kernel_rfl) _ rfl
      clear hin hout
      intro K Q hK
      refine wp_load_mid 24 (.tmp 32) rfl b o (eval_of_get e32) (bs lnk0).toList _ (fun j u hu => hR.cell (a := ⟨b, o + j, none⟩) (r0 j u hu)) Tryd.underlying24 rfl size_d ?_
      exact hK _ _ ⟨Keeps.refl _ _, by simp [Vs, is]⟩
    refine all_step rfl (fun a x W hR hout hin => ?_) ?_
    · have e1 : a.tmps[1]? = some (.pointer (some ⟨w.heap.size, 0, none⟩)) := (hout 1 (by kernel_rfl)).trans rfl
      clear hin hout
      intro K Q hK
      go_simp
      exact hK _ _ ⟨Keeps.refl _ _, rfl⟩
    refine all_step rfl (fun a x W hR hout hin => ?_) ?_
    · clear hin hout
      intro K Q hK
      go_simp
      exact hK _ _ ⟨Keeps.alloc _ _ hR.below.size, lit_new W [97#8] hR.below.size⟩
    refine all_step rfl (fun a x W hR hout hin => ?_) ?_
    · obtain ⟨v35, e35, hv35⟩ := hin.get 25 35 (by kernel_rfl) (by decide) (by kernel_rfl)
      exact does_conv rfl e35 hv35 fun w' h1 h2 => ⟨h1, h2⟩
    refine all_step rfl (fun a x W hR hout hin => ?_) ?_
    · have e34 := hin.is 24 34 (by kernel_rfl) (by decide) (by kernel_rfl) _ rfl
      obtain ⟨v36, e36, hv36⟩ := hin.get 26 36 (by kernel_rfl) (by decide) (by kernel_rfl)
      have sz : Slice W (.slice (some ⟨w.heap.size, 0, none⟩) 32 32) (zer 32) := row_slice (rz.drew.below hR.below rz.lt) (c := 32) (Nat.le_refl _)
      have s36 := lit_sl hv36
      obtain ⟨g36, fr36, rfl, _, _⟩ := hv36
      clear hin hout
      intro K Q hK
      go_simp
      exact hK _ _ ⟨Keeps.alloc _ _ hR.below.size, parts2 sz s36⟩
    refine all_step rfl (fun a x W hR hout hin => ?_) ?_
    · obtain ⟨v37, e37, hv37⟩ := hin.get 27 37 (by kernel_rfl) (by decide) (by kernel_rfl)
      have hT : Tab W := HT.out.below (hb01.trans ((Below.refl w.heap.size w1).drew.trans (hR.below.mono hb01.size))) HT.out.pos
      clear hin hout
      intro K Q hK
      go_simp
      refine (sum_any [zer 32, [97#8]] v37 W hT hv37 (by decide) (by decide)).mono ?_
      rintro e W' ⟨rfl, hb⟩
      exact hK _ _ ⟨Keeps.call hb hR.below.size, congrArg (fun d => Value.agg (bs d)) sha_lnk0⟩
    refine all_step rfl (fun a x W hR hout hin => ?_) ?_
    · have e33 := hin.is 23 33 (by kernel_rfl) (by decide) (by kernel_rfl) _ rfl
      have e38 := hin.is 28 38 (by kernel_rfl) (by decide) (by kernel_rfl) _ rfl
      have q := eql_dig lnk0 rfl W
      clear hin hout
      intro K Q hK
      go_simp
      exact hK _ _ ⟨Keeps.refl _ _, rfl⟩
    refine all_step rfl (fun a x W hR hout hin => ?_) ?_
    · have e30 := hin.is 20 30 (by kernel_rfl) (by decide) (by kernel_rfl) _ rfl
      have e39 := hin.is 29 39 (by kernel_rfl) (by decide) (by kernel_rfl) _ rfl
      exact does_pick rfl e30 ⟨Keeps.refl _ _, eval_of_get e39⟩
    refine all_step rfl (fun a x W hR hout hin => ?_) ?_
    · have e40 := hin.is 30 40 (by kernel_rfl) (by decide) (by kernel_rfl) _ rfl
      exact does_move rfl e40 ⟨Keeps.refl _ _, rfl⟩
    refine all_step rfl (fun a x W hR hout hin => ?_) ?_
    · have e2 : a.tmps[2]? = some (.slice (some ⟨b, o, none⟩) 2 c) := (hout 2 (by kernel_rfl)).trans rfl
      exact does_move rfl e2 ⟨Keeps.refl _ _, rfl⟩
    refine all_step rfl (fun a x W hR hout hin => ?_) ?_
    · have e42 := hin.is 32 42 (by kernel_rfl) (by decide) (by kernel_rfl) _ rfl
      clear hin hout
      intro K Q hK
      go_simp
      exact hK _ _ ⟨Keeps.refl _ _, rfl⟩
    refine all_step rfl (fun a x W hR hout hin => ?_) ?_
    · have e43 := hin.is 33 43 (by kernel_rfl) (by decide) (by kernel_rfl) _ rfl
      clear hin hout
      intro K Q hK
      refine wp_load_mid 24 (.tmp 43) rfl b (o + 32) (eval_of_get e43) (bs lnk1).toList _ (fun j u hu => hR.cell (a := ⟨b, (o + 32) + j, none⟩) (r1 j u hu)) Tryd.underlying24 rfl size_d ?_
      exact hK _ _ ⟨Keeps.refl _ _, by simp [Vs, is]⟩
    refine all_step rfl (fun a x W hR hout hin => ?_) ?_
    · have e2 : a.tmps[2]? = some (.slice (some ⟨b, o, none⟩) 2 c) := (hout 2 (by kernel_rfl)).trans rfl
      exact does_move rfl e2 ⟨Keeps.refl _ _, rfl⟩
    refine all_step rfl (fun a x W hR hout hin => ?_) ?_
    · have e45 := hin.is 35 45 (by kernel_rfl) (by decide) (by kernel_rfl) _ rfl
      clear hin hout
      intro K Q hK
      go_simp
      exact hK _ _ ⟨Keeps.refl _ _, rfl⟩
    refine all_step rfl (fun a x W hR hout hin => ?_) ?_
    · have e46 := hin.is 36 46 (by kernel_rfl) (by decide) (by kernel_rfl) _ rfl
      clear hin hout
      intro K Q hK
      refine wp_load_mid 24 (.tmp 46) rfl b o (eval_of_get e46) (bs lnk0).toList _ (fun j u hu => hR.cell (a := ⟨b, o + j, none⟩) (r0 j u hu)) Tryd.underlying24 rfl size_d ?_
      exact hK _ _ ⟨Keeps.refl _ _, by simp [Vs, is]⟩
    refine all_step rfl (fun a x W hR hout hin => ?_) ?_
    · clear hin hout
      intro K Q hK
      go_simp
      exact hK _ _ ⟨Keeps.alloc _ _ hR.below.size, lit_new W [98#8] hR.below.size⟩
    refine all_step rfl (fun a x W hR hout hin => ?_) ?_
    · obtain ⟨v48, e48, hv48⟩ := hin.get 38 48 (by kernel_rfl) (by decide) (by kernel_rfl)
      exact does_conv rfl e48 hv48 fun w' h1 h2 => ⟨h1, h2⟩
    refine all_step rfl (fun a x W hR hout hin => ?_) ?_
    · obtain ⟨v49, e49, hv49⟩ := hin.get 39 49 (by kernel_rfl) (by decide) (by kernel_rfl)
      have s49 := lit_sl hv49
      obtain ⟨g49, fr49, rfl, _, _⟩ := hv49
      clear hin hout
      intro K Q hK
      go_simp
      exact hK _ _ ⟨Keeps.alloc _ _ hR.below.size, parts1 s49⟩
    refine all_step rfl (fun a x W hR hout hin => ?_) ?_
    · have e47 := hin.is 37 47 (by kernel_rfl) (by decide) (by kernel_rfl) _ rfl
      obtain ⟨v50, e50, hv50⟩ := hin.get 40 50 (by kernel_rfl) (by decide) (by kernel_rfl)
      have hT : Tab W := HT.out.below (hb01.trans ((Below.refl w.heap.size w1).drew.trans (hR.below.mono hb01.size))) HT.out.pos
      clear hin hout
      intro K Q hK
      go_simp
      refine (step_one lnk0 [98#8] v50 W hT rfl hv50 (by decide) lnk1 sha_lnk1).mono ?_
      rintro e W' ⟨rfl, hb⟩
      exact hK _ _ ⟨Keeps.call hb hR.below.size, rfl⟩
    refine all_step rfl (fun a x W hR hout hin => ?_) ?_
    · have e44 := hin.is 34 44 (by kernel_rfl) (by decide) (by kernel_rfl) _ rfl
      have e51 := hin.is 41 51 (by kernel_rfl) (by decide) (by kernel_rfl) _ rfl
      have q := eql_dig lnk1 rfl W
      clear hin hout
      intro K Q hK
      go_simp
      exact hK _ _ ⟨Keeps.refl _ _, rfl⟩
    refine all_step rfl (fun a x W hR hout hin => ?_) ?_
    · have e41 := hin.is 31 41 (by kernel_rfl) (by decide) (by kernel_rfl) _ rfl
      have e52 := hin.is 42 52 (by kernel_rfl) (by decide) (by kernel_rfl) _ rfl
      exact does_pick rfl e41 ⟨Keeps.refl _ _, eval_of_get e52⟩
    refine all_step rfl (fun a x W hR hout hin => ?_) ?_
    · have e53 := hin.is 43 53 (by kernel_rfl) (by decide) (by kernel_rfl) _ rfl
      exact does_move rfl e53 ⟨Keeps.refl _ _, rfl⟩
    refine all_step rfl (fun a x W hR hout hin => ?_) ?_
    · have e2 : a.tmps[2]? = some (.slice (some ⟨b, o, none⟩) 2 c) := (hout 2 (by kernel_rfl)).trans rfl
      exact does_move rfl e2 ⟨Keeps.refl _ _, rfl⟩
    refine all_step rfl (fun a x W hR hout hin => ?_) ?_
    · have e55 := hin.is 45 55 (by kernel_rfl) (by decide) (by kernel_rfl) _ rfl
      clear hin hout
      intro K Q hK
      go_simp
      exact hK _ _ ⟨Keeps.refl _ _, rfl⟩
    refine all_step rfl (fun a x W hR hout hin => ?_) ?_
    · have e56 := hin.is 46 56 (by kernel_rfl) (by decide) (by kernel_rfl) _ rfl
      clear hin hout
      intro K Q hK
      refine wp_load_mid 24 (.tmp 56) rfl b o (eval_of_get e56) (bs lnk0).toList _ (fun j u hu => hR.cell (a := ⟨b, o + j, none⟩) (r0 j u hu)) Tryd.underlying24 rfl size_d ?_
      exact hK _ _ ⟨Keeps.refl _ _, by simp [Vs, is]⟩
    refine all_step rfl (fun a x W hR hout hin => ?_) ?_
    · have e2 : a.tmps[2]? = some (.slice (some ⟨b, o, none⟩) 2 c) := (hout 2 (by kernel_rfl)).trans rfl
      exact does_move rfl e2 ⟨Keeps.refl _ _, rfl⟩
    refine all_step rfl (fun a x W hR hout hin => ?_) ?_
    · have e58 := hin.is 48 58 (by kernel_rfl) (by decide) (by kernel_rfl) _ rfl
      clear hin hout
      intro K Q hK
      go_simp
      exact hK _ _ ⟨Keeps.refl _ _, rfl⟩
    refine all_step rfl (fun a x W hR hout hin => ?_) ?_
    · have e59 := hin.is 49 59 (by kernel_rfl) (by decide) (by kernel_rfl) _ rfl
      clear hin hout
      intro K Q hK
      refine wp_load_mid 24 (.tmp 59) rfl b (o + 32) (eval_of_get e59) (bs lnk1).toList _ (fun j u hu => hR.cell (a := ⟨b, (o + 32) + j, none⟩) (r1 j u hu)) Tryd.underlying24 rfl size_d ?_
      exact hK _ _ ⟨Keeps.refl _ _, by simp [Vs, is]⟩
    refine all_step rfl (fun a x W hR hout hin => ?_) ?_
    · have e57 := hin.is 47 57 (by kernel_rfl) (by decide) (by kernel_rfl) _ rfl
      have e60 := hin.is 50 60 (by kernel_rfl) (by decide) (by kernel_rfl) _ rfl
      have q := eql_ne01 W
      clear hin hout
      intro K Q hK
      go_simp
      exact hK _ _ ⟨Keeps.refl _ _, rfl⟩
    refine all_step rfl (fun a x W hR hout hin => ?_) ?_
    · have e54 := hin.is 44 54 (by kernel_rfl) (by decide) (by kernel_rfl) _ rfl
      have e61 := hin.is 51 61 (by kernel_rfl) (by decide) (by kernel_rfl) _ rfl
      exact does_pick rfl e54 ⟨Keeps.refl _ _, eval_of_get e61⟩
    refine all_step rfl (fun a x W hR hout hin => ?_) ?_
    · have e62 := hin.is 52 62 (by kernel_rfl) (by decide) (by kernel_rfl) _ rfl
      exact does_assign rfl e62 ⟨Keeps.refl _ _, rfl⟩
    exact all_end (by decide)
  · intro x W hKW hV
    have h53 : x 53 = .bool true := hV 53 (by decide)
    clear hV
    simp only [putL, Act.put, List.setIfInBounds_toArray, List.set_cons_succ, List.set_cons_zero, h53]
    refine wpAnyH_done (by kernel_rfl) ?_ _
    have hbW := hb01.trans ((Below.refl w.heap.size w1).drew.trans (hKW.below.mono hb01.size))
    clear hKW h53
    go_wp2_with fail
    go_ret
    exact ⟨rfl, hbW⟩
end Go.Proofs.YtnfceejmkcohnaaDoor
