/- The statement SlotsTell: its walk. -/
import Derived.Test.YtjlcbfjcknkpnaaSlotsRef
import Derived.Test.YtjlcbfjcknkpnaaOpenN
import Derived.Test.YtjlcbfjcknkpnaaPhs
import Derived.Test.YtjlcbfjcknkpnaaObj
set_option maxRecDepth 4000
namespace Go.Proofs.Ytjlcbfjcknkpnaa
open Go Go.RowKit
set_option maxRecDepth 20000 in
set_option maxHeartbeats 1600000 in
theorem sltell_any (p : Int) (n m : Nat) (k : Int) (t : Nat) (e c : Int) (w : World)
    (HOW : Hid (∀ w, Calls Try.prog 9 #[.int .u32 n] w fun e w' => e = .returned (.int .i64 ((n % 4 : Nat) : Int)) ∧ w = w'))
    (HROW : Hid (∀ w, Calls Try.prog 10 #[.int .u32 n] w fun e w' => e = .returned (.int .i64 ((n % 4 : Nat) : Int)) ∧ w = w'))
    (HNX : Hid (∀ w, Calls Try.prog 7 #[.int .i64 p, .int .u32 n] w fun e' w' => e' = .returned (.tuple #[.int .u32 t, .int .i64 e]) ∧ Below w.heap.size w w'))
    (HRNX : Hid (∀ w, Calls Try.prog 8 #[.int .i64 p, .int .u32 n] w fun e' w' => e' = .returned (.tuple #[.int .u32 t, .int .i64 e]) ∧ Below w.heap.size w w'))
    (HCN : Hid (∀ w, Calls Try.prog 11 #[.int .i64 p, .int .u32 n, .int .u32 m] w fun e' w' => e' = .returned (.int .i64 c) ∧ Below w.heap.size w w'))
    (HRCN : Hid (∀ w, Calls Try.prog 12 #[.int .i64 p, .int .u32 n, .int .u32 m] w fun e' w' => e' = .returned (.int .i64 c) ∧ Below w.heap.size w w')) :
    Calls Try.prog 3 #[.int .i64 p, .agg #[.int .u32 (n : Int), .int .u32 (m : Int)], .int .i64 k] w fun e w' => e = .returned (.bool true) ∧ Below w.heap.size w w' := by
  have HR0 := Lib.hid (Row.fresh w 23 #[.int .u32 (n : Int), .int .u32 (m : Int)])
  have HB0 := Lib.hid ((Below.refl w.heap.size w).alloc (Nat.le_refl _) (.cells #[.int .u32 (n : Int), .int .u32 (m : Int)] 23))
  obtain ⟨W1, hW1⟩ : ∃ W1, w.alloc (.cells #[.int .u32 (n : Int), .int .u32 (m : Int)] 23) = W1 := ⟨_, rfl⟩
  obtain ⟨g, hg⟩ : ∃ g, w.heap.size = g := ⟨_, rfl⟩
  go_enter Try.func3, Try.ntmps3
  go_upto_region 1 with fail
  rw [hW1] at HR0 HB0
  rw [hg] at HR0
  clear hg hW1
  have hc : W1.cell? ⟨g, 0, none⟩ = some (.int .u32 (n : Int)) := HR0.out.get rfl
  go_wp2_with fail
  refine (HNX.out W1).mono ?_
  rintro e' W2 ⟨rfl, hb⟩
  have HR2 := Lib.hid (HR0.out.call hb)
  have HB2 := Lib.hid (HB0.out.trans (hb.mono HB0.out.size))
  clear hb HR0 HB0 hc
  have hc : W2.cell? ⟨g, 0, none⟩ = some (.int .u32 (n : Int)) := HR2.out.get rfl
  go_wp2_with fail
  refine (HRNX.out W2).mono ?_
  rintro e' W3 ⟨rfl, hb⟩
  have HR3 := Lib.hid (HR2.out.call hb)
  have HB3 := Lib.hid (HB2.out.trans (hb.mono HB2.out.size))
  clear hb HR2 HB2 hc
  go_upto_region 3 with fail
  have hF0 : Wl [fun W => Row W g 23 #[.int .u32 (n : Int), .int .u32 (m : Int)] ∧ Below w.heap.size w W] 0 W3.drew := ⟨HR3.out.call (Below.refl _ _).drew, HB3.out.trans ((Below.refl _ _).drew.mono HB3.out.size)⟩
  clear HR3 HB3
  refine wp_region_phs [is (.pointer (some ⟨g, 0, none⟩)), is (.int .u32 (n : Int)), is (.int .i64 ((n % 4 : Nat) : Int)), is (.pointer (some ⟨g, 0, none⟩)), is (.int .u32 (n : Int)), is (.int .i64 ((n % 4 : Nat) : Int)), is (.bool true), is (.bool true), is (.int .u32 (t : Int)), is (.int .u32 (t : Int)), is (.bool true), is (.bool true), is (.bool true), is (.int .i64 e), is (.int .i64 e), is (.bool true), is (.bool true), is (.bool true), is (.int .i64 p), is (.pointer (some ⟨g, 0, none⟩)), is (.int .u32 (n : Int)), is (.pointer (some ⟨g, 1, none⟩)), is (.int .u32 (m : Int)), is (.int .i64 c), is (.int .i64 p), is (.pointer (some ⟨g, 0, none⟩)), is (.int .u32 (n : Int)), is (.pointer (some ⟨g, 1, none⟩)), is (.int .u32 (m : Int)), is (.int .i64 c), is (.bool true), is (.bool true), is (.bool true), is (.int .i64 k), is (.int .i64 (boundI k)), is (.int .i64 k), is (.int .i64 (boundI k)), is (.bool true), is (.bool true), is (.bool true), is (.bool true), is (.bool true), is (.bool true)] [true, true, true, true, true, true, true, true, true, true, true, true, true, true, true, true, true, true, true, true, true, true, true, true, true, true, true, true, true, true, true, true, true, true, true, true, true, true, true, true, true, true, true] [(fun W => Row W g 23 #[.int .u32 (n : Int), .int .u32 (m : Int)] ∧ Below w.heap.size w W)] [false, false, false, false, false, false, false, false, false, false, false, false, false, false, false, false, false, false, false, false, false, false, false, false, false, false, false, false, false, false, false, false, false, false, false, false, false, false, false, false, false, false, false] [some 0, some 0, some 0, some 0, some 0, some 0, some 0, some 0, some 0, some 0, some 0, some 0, some 0, some 0, some 0, some 0, some 0, some 0, some 0, some 0, some 0, some 0, some 0, some 0, some 0, some 0, some 0, some 0, some 0, some 0, some 0, some 0, some 0, some 0, some 0, some 0, some 0, some 0, some 0, some 0, some 0, some 0, some 0] [some 25, some 26, some 27, some 28, some 29, some 30, some 31, some 32, some 33, some 34, some 35, some 36, some 37, some 38, some 39, some 40, some 41, some 42, some 43, some 44, some 45, some 46, some 47, some 48, some 49, some 50, some 51, some 52, some 53, some 54, some 55, some 56, some 57, some 58, some 59, some 60, some 61, some 62, some 63, some 64, some 65, some 66, some 6] 43 0 (fun _ => true) rfl rfl (by kernel_rfl) (by kernel_rfl) (by kernel_rfl) (by kernel_rfl) ?_ ?_ ?_ ?_ ?_ ?_
  · repeat first | exact wok_nil | refine wok_cons (by first | exact fun _ _ h k => ⟨h.1.call k, h.2.trans (k.mono h.2.size)⟩) ?_
  · repeat first | exact vok_nil | refine vok_rig (by first | exact fun _ _ _ h => h) ?_ | refine vok_soft (by first | exact fun _ _ _ h _ => h) ?_
  · exact hF0
  · repeat first | exact all_end (by decide) | refine all_cons (by first | exact rfl | exact ⟨rfl, fun _ _ h => Or.inl h⟩ | exact ⟨rfl, fun _ _ h => Or.inr ⟨h, rfl⟩⟩) ?_
  · refine allp_mild 0 rfl rfl rfl (fun a x W hout hin hP => ?_) ?_
    · have e4 : a.tmps[4]? = some (.pointer (some ⟨g, 0, none⟩)) := (hout 4 (by kernel_rfl)).trans rfl
      clear hin hout
      intro K Q hK
      go_simp
      exact hK _ _ ⟨Same.refl _, rfl⟩
    refine allp_mild 0 rfl rfl rfl (fun a x W hout hin hP => ?_) ?_
    · have e25 := hin.is 0 25 (by kernel_rfl) (by decide) (by kernel_rfl) (by kernel_rfl) _ rfl
      have hc : W.cell? ⟨g, 0, none⟩ = some (.int .u32 (n : Int)) := hP.1.get rfl
      clear hP
      clear hin hout
      intro K Q hK
      go_simp
      exact hK _ _ ⟨Same.refl _, rfl⟩
    refine allp_mild 0 rfl rfl rfl (fun a x W hout hin hP => ?_) ?_
    · have e26 := hin.is 1 26 (by kernel_rfl) (by decide) (by kernel_rfl) (by kernel_rfl) _ rfl
      have C := HOW.out W
      clear hP
      clear hin hout
      intro K Q hK
      go_simp
      refine C.mono ?_
      rintro e' W' ⟨rfl, rfl⟩
      exact hK _ _ ⟨Same.refl _, rfl⟩
    refine allp_mild 0 rfl rfl rfl (fun a x W hout hin hP => ?_) ?_
    · have e4 : a.tmps[4]? = some (.pointer (some ⟨g, 0, none⟩)) := (hout 4 (by kernel_rfl)).trans rfl
      clear hin hout
      intro K Q hK
      go_simp
      exact hK _ _ ⟨Same.refl _, rfl⟩
    refine allp_mild 0 rfl rfl rfl (fun a x W hout hin hP => ?_) ?_
    · have e28 := hin.is 3 28 (by kernel_rfl) (by decide) (by kernel_rfl) (by kernel_rfl) _ rfl
      have hc : W.cell? ⟨g, 0, none⟩ = some (.int .u32 (n : Int)) := hP.1.get rfl
      clear hP
      clear hin hout
      intro K Q hK
      go_simp
      exact hK _ _ ⟨Same.refl _, rfl⟩
    refine allp_mild 0 rfl rfl rfl (fun a x W hout hin hP => ?_) ?_
    · have e29 := hin.is 4 29 (by kernel_rfl) (by decide) (by kernel_rfl) (by kernel_rfl) _ rfl
      have C := HROW.out W
      clear hP
      clear hin hout
      intro K Q hK
      go_simp
      refine C.mono ?_
      rintro e' W' ⟨rfl, rfl⟩
      exact hK _ _ ⟨Same.refl _, rfl⟩
    refine allp_mild 0 rfl rfl rfl (fun a x W hout hin hP => ?_) ?_
    · have e27 := hin.is 2 27 (by kernel_rfl) (by decide) (by kernel_rfl) (by kernel_rfl) _ rfl
      have e30 := hin.is 5 30 (by kernel_rfl) (by decide) (by kernel_rfl) (by kernel_rfl) _ rfl
      clear hin hout
      intro K Q hK
      go_simp
      exact hK _ _ ⟨Same.refl _, rfl⟩
    refine allp_mild 0 rfl rfl rfl (fun a x W hout hin hP => ?_) ?_
    · have e31 := hin.is 6 31 (by kernel_rfl) (by decide) (by kernel_rfl) (by kernel_rfl) _ rfl
      exact does_move rfl e31 ⟨Same.refl _, rfl⟩
    refine allp_mild 0 rfl rfl rfl (fun a x W hout hin hP => ?_) ?_
    · have e7 : a.tmps[7]? = some (.int .u32 (t : Int)) := (hout 7 (by kernel_rfl)).trans rfl
      exact does_move rfl e7 ⟨Same.refl _, rfl⟩
    refine allp_mild 0 rfl rfl rfl (fun a x W hout hin hP => ?_) ?_
    · have e9 : a.tmps[9]? = some (.int .u32 (t : Int)) := (hout 9 (by kernel_rfl)).trans rfl
      exact does_move rfl e9 ⟨Same.refl _, rfl⟩
    refine allp_mild 0 rfl rfl rfl (fun a x W hout hin hP => ?_) ?_
    · have e33 := hin.is 8 33 (by kernel_rfl) (by decide) (by kernel_rfl) (by kernel_rfl) _ rfl
      have e34 := hin.is 9 34 (by kernel_rfl) (by decide) (by kernel_rfl) (by kernel_rfl) _ rfl
      clear hin hout
      intro K Q hK
      go_simp
      exact hK _ _ ⟨Same.refl _, rfl⟩
    refine allp_mild 0 rfl rfl rfl (fun a x W hout hin hP => ?_) ?_
    · have e32 := hin.is 7 32 (by kernel_rfl) (by decide) (by kernel_rfl) (by kernel_rfl) _ rfl
      have e35 := hin.is 10 35 (by kernel_rfl) (by decide) (by kernel_rfl) (by kernel_rfl) _ rfl
      exact does_pick rfl e32 ⟨Same.refl _, eval_of_get e35⟩
    refine allp_mild 0 rfl rfl rfl (fun a x W hout hin hP => ?_) ?_
    · have e36 := hin.is 11 36 (by kernel_rfl) (by decide) (by kernel_rfl) (by kernel_rfl) _ rfl
      exact does_move rfl e36 ⟨Same.refl _, rfl⟩
    refine allp_mild 0 rfl rfl rfl (fun a x W hout hin hP => ?_) ?_
    · have e8 : a.tmps[8]? = some (.int .i64 e) := (hout 8 (by kernel_rfl)).trans rfl
      exact does_move rfl e8 ⟨Same.refl _, rfl⟩
    refine allp_mild 0 rfl rfl rfl (fun a x W hout hin hP => ?_) ?_
    · have e10 : a.tmps[10]? = some (.int .i64 e) := (hout 10 (by kernel_rfl)).trans rfl
      exact does_move rfl e10 ⟨Same.refl _, rfl⟩
    refine allp_mild 0 rfl rfl rfl (fun a x W hout hin hP => ?_) ?_
    · have e38 := hin.is 13 38 (by kernel_rfl) (by decide) (by kernel_rfl) (by kernel_rfl) _ rfl
      have e39 := hin.is 14 39 (by kernel_rfl) (by decide) (by kernel_rfl) (by kernel_rfl) _ rfl
      clear hin hout
      intro K Q hK
      go_simp
      exact hK _ _ ⟨Same.refl _, rfl⟩
    refine allp_mild 0 rfl rfl rfl (fun a x W hout hin hP => ?_) ?_
    · have e37 := hin.is 12 37 (by kernel_rfl) (by decide) (by kernel_rfl) (by kernel_rfl) _ rfl
      have e40 := hin.is 15 40 (by kernel_rfl) (by decide) (by kernel_rfl) (by kernel_rfl) _ rfl
      exact does_pick rfl e37 ⟨Same.refl _, eval_of_get e40⟩
    refine allp_mild 0 rfl rfl rfl (fun a x W hout hin hP => ?_) ?_
    · have e41 := hin.is 16 41 (by kernel_rfl) (by decide) (by kernel_rfl) (by kernel_rfl) _ rfl
      exact does_move rfl e41 ⟨Same.refl _, rfl⟩
    refine allp_mild 0 rfl rfl rfl (fun a x W hout hin hP => ?_) ?_
    · have e0 : a.tmps[0]? = some (.int .i64 p) := (hout 0 (by kernel_rfl)).trans rfl
      exact does_move rfl e0 ⟨Same.refl _, rfl⟩
    refine allp_mild 0 rfl rfl rfl (fun a x W hout hin hP => ?_) ?_
    · have e4 : a.tmps[4]? = some (.pointer (some ⟨g, 0, none⟩)) := (hout 4 (by kernel_rfl)).trans rfl
      clear hin hout
      intro K Q hK
      go_simp
      exact hK _ _ ⟨Same.refl _, rfl⟩
    refine allp_mild 0 rfl rfl rfl (fun a x W hout hin hP => ?_) ?_
    · have e44 := hin.is 19 44 (by kernel_rfl) (by decide) (by kernel_rfl) (by kernel_rfl) _ rfl
      have hc : W.cell? ⟨g, 0, none⟩ = some (.int .u32 (n : Int)) := hP.1.get rfl
      clear hP
      clear hin hout
      intro K Q hK
      go_simp
      exact hK _ _ ⟨Same.refl _, rfl⟩
    refine allp_mild 0 rfl rfl rfl (fun a x W hout hin hP => ?_) ?_
    · have e4 : a.tmps[4]? = some (.pointer (some ⟨g, 0, none⟩)) := (hout 4 (by kernel_rfl)).trans rfl
      clear hin hout
      intro K Q hK
      go_simp
      exact hK _ _ ⟨Same.refl _, rfl⟩
    refine allp_mild 0 rfl rfl rfl (fun a x W hout hin hP => ?_) ?_
    · have e46 := hin.is 21 46 (by kernel_rfl) (by decide) (by kernel_rfl) (by kernel_rfl) _ rfl
      have hc : W.cell? ⟨g, 1, none⟩ = some (.int .u32 (m : Int)) := hP.1.get rfl
      clear hP
      clear hin hout
      intro K Q hK
      go_simp
      exact hK _ _ ⟨Same.refl _, rfl⟩
    refine allp_mild 0 rfl rfl rfl (fun a x W hout hin hP => ?_) ?_
    · have e43 := hin.is 18 43 (by kernel_rfl) (by decide) (by kernel_rfl) (by kernel_rfl) _ rfl
      have e45 := hin.is 20 45 (by kernel_rfl) (by decide) (by kernel_rfl) (by kernel_rfl) _ rfl
      have e47 := hin.is 22 47 (by kernel_rfl) (by decide) (by kernel_rfl) (by kernel_rfl) _ rfl
      have C := HCN.out W
      clear hP
      clear hin hout
      intro K Q hK
      go_simp
      refine C.mono ?_
      rintro e' W' ⟨rfl, hb⟩
      exact hK _ _ ⟨hb, rfl⟩
    refine allp_mild 0 rfl rfl rfl (fun a x W hout hin hP => ?_) ?_
    · have e0 : a.tmps[0]? = some (.int .i64 p) := (hout 0 (by kernel_rfl)).trans rfl
      exact does_move rfl e0 ⟨Same.refl _, rfl⟩
    refine allp_mild 0 rfl rfl rfl (fun a x W hout hin hP => ?_) ?_
    · have e4 : a.tmps[4]? = some (.pointer (some ⟨g, 0, none⟩)) := (hout 4 (by kernel_rfl)).trans rfl
      clear hin hout
      intro K Q hK
      go_simp
      exact hK _ _ ⟨Same.refl _, rfl⟩
    refine allp_mild 0 rfl rfl rfl (fun a x W hout hin hP => ?_) ?_
    · have e50 := hin.is 25 50 (by kernel_rfl) (by decide) (by kernel_rfl) (by kernel_rfl) _ rfl
      have hc : W.cell? ⟨g, 0, none⟩ = some (.int .u32 (n : Int)) := hP.1.get rfl
      clear hP
      clear hin hout
      intro K Q hK
      go_simp
      exact hK _ _ ⟨Same.refl _, rfl⟩
    refine allp_mild 0 rfl rfl rfl (fun a x W hout hin hP => ?_) ?_
    · have e4 : a.tmps[4]? = some (.pointer (some ⟨g, 0, none⟩)) := (hout 4 (by kernel_rfl)).trans rfl
      clear hin hout
      intro K Q hK
      go_simp
      exact hK _ _ ⟨Same.refl _, rfl⟩
    refine allp_mild 0 rfl rfl rfl (fun a x W hout hin hP => ?_) ?_
    · have e52 := hin.is 27 52 (by kernel_rfl) (by decide) (by kernel_rfl) (by kernel_rfl) _ rfl
      have hc : W.cell? ⟨g, 1, none⟩ = some (.int .u32 (m : Int)) := hP.1.get rfl
      clear hP
      clear hin hout
      intro K Q hK
      go_simp
      exact hK _ _ ⟨Same.refl _, rfl⟩
    refine allp_mild 0 rfl rfl rfl (fun a x W hout hin hP => ?_) ?_
    · have e49 := hin.is 24 49 (by kernel_rfl) (by decide) (by kernel_rfl) (by kernel_rfl) _ rfl
      have e51 := hin.is 26 51 (by kernel_rfl) (by decide) (by kernel_rfl) (by kernel_rfl) _ rfl
      have e53 := hin.is 28 53 (by kernel_rfl) (by decide) (by kernel_rfl) (by kernel_rfl) _ rfl
      have C := HRCN.out W
      clear hP
      clear hin hout
      intro K Q hK
      go_simp
      refine C.mono ?_
      rintro e' W' ⟨rfl, hb⟩
      exact hK _ _ ⟨hb, rfl⟩
    refine allp_mild 0 rfl rfl rfl (fun a x W hout hin hP => ?_) ?_
    · have e48 := hin.is 23 48 (by kernel_rfl) (by decide) (by kernel_rfl) (by kernel_rfl) _ rfl
      have e54 := hin.is 29 54 (by kernel_rfl) (by decide) (by kernel_rfl) (by kernel_rfl) _ rfl
      clear hin hout
      intro K Q hK
      go_simp
      exact hK _ _ ⟨Same.refl _, rfl⟩
    refine allp_mild 0 rfl rfl rfl (fun a x W hout hin hP => ?_) ?_
    · have e42 := hin.is 17 42 (by kernel_rfl) (by decide) (by kernel_rfl) (by kernel_rfl) _ rfl
      have e55 := hin.is 30 55 (by kernel_rfl) (by decide) (by kernel_rfl) (by kernel_rfl) _ rfl
      exact does_pick rfl e42 ⟨Same.refl _, eval_of_get e55⟩
    refine allp_mild 0 rfl rfl rfl (fun a x W hout hin hP => ?_) ?_
    · have e56 := hin.is 31 56 (by kernel_rfl) (by decide) (by kernel_rfl) (by kernel_rfl) _ rfl
      exact does_move rfl e56 ⟨Same.refl _, rfl⟩
    refine allp_mild 0 rfl rfl rfl (fun a x W hout hin hP => ?_) ?_
    · have e2 : a.tmps[2]? = some (.int .i64 k) := (hout 2 (by kernel_rfl)).trans rfl
      exact does_move rfl e2 ⟨Same.refl _, rfl⟩
    refine allp_mild 0 rfl rfl rfl (fun a x W hout hin hP => ?_) ?_
    · have e58 := hin.is 33 58 (by kernel_rfl) (by decide) (by kernel_rfl) (by kernel_rfl) _ rfl
      have C := (bound_any k) W
      clear hP
      clear hin hout
      intro K Q hK
      go_simp
      refine C.mono ?_
      rintro e' W' ⟨rfl, rfl⟩
      exact hK _ _ ⟨Same.refl _, rfl⟩
    refine allp_mild 0 rfl rfl rfl (fun a x W hout hin hP => ?_) ?_
    · have e2 : a.tmps[2]? = some (.int .i64 k) := (hout 2 (by kernel_rfl)).trans rfl
      exact does_move rfl e2 ⟨Same.refl _, rfl⟩
    refine allp_mild 0 rfl rfl rfl (fun a x W hout hin hP => ?_) ?_
    · have e60 := hin.is 35 60 (by kernel_rfl) (by decide) (by kernel_rfl) (by kernel_rfl) _ rfl
      have C := (rbound_any k) W
      clear hP
      clear hin hout
      intro K Q hK
      go_simp
      refine C.mono ?_
      rintro e' W' ⟨rfl, rfl⟩
      exact hK _ _ ⟨Same.refl _, rfl⟩
    refine allp_mild 0 rfl rfl rfl (fun a x W hout hin hP => ?_) ?_
    · have e59 := hin.is 34 59 (by kernel_rfl) (by decide) (by kernel_rfl) (by kernel_rfl) _ rfl
      have e61 := hin.is 36 61 (by kernel_rfl) (by decide) (by kernel_rfl) (by kernel_rfl) _ rfl
      clear hin hout
      intro K Q hK
      go_simp
      exact hK _ _ ⟨Same.refl _, rfl⟩
    refine allp_mild 0 rfl rfl rfl (fun a x W hout hin hP => ?_) ?_
    · have e57 := hin.is 32 57 (by kernel_rfl) (by decide) (by kernel_rfl) (by kernel_rfl) _ rfl
      have e62 := hin.is 37 62 (by kernel_rfl) (by decide) (by kernel_rfl) (by kernel_rfl) _ rfl
      exact does_pick rfl e57 ⟨Same.refl _, eval_of_get e62⟩
    refine allp_mild 0 rfl rfl rfl (fun a x W hout hin hP => ?_) ?_
    · have e63 := hin.is 38 63 (by kernel_rfl) (by decide) (by kernel_rfl) (by kernel_rfl) _ rfl
      exact does_move rfl e63 ⟨Same.refl _, rfl⟩
    refine allp_mild 0 rfl rfl rfl (fun a x W hout hin hP => ?_) ?_
    · have C := slwakes_any W
      clear hP
      clear hin hout
      intro K Q hK
      go_simp
      refine C.mono ?_
      rintro e' W' ⟨rfl, hb⟩
      exact hK _ _ ⟨hb, rfl⟩
    refine allp_mild 0 rfl rfl rfl (fun a x W hout hin hP => ?_) ?_
    · have e64 := hin.is 39 64 (by kernel_rfl) (by decide) (by kernel_rfl) (by kernel_rfl) _ rfl
      have e65 := hin.is 40 65 (by kernel_rfl) (by decide) (by kernel_rfl) (by kernel_rfl) _ rfl
      exact does_pick rfl e64 ⟨Same.refl _, eval_of_get e65⟩
    refine allp_mild 0 rfl rfl rfl (fun a x W hout hin hP => ?_) ?_
    · have e66 := hin.is 41 66 (by kernel_rfl) (by decide) (by kernel_rfl) (by kernel_rfl) _ rfl
      exact does_assign rfl e66 ⟨Same.refl _, rfl⟩
    exact all_end (by decide)
  · intro x W hP hV
    have h42 : x 42 = .bool true := hV 42 (by decide) (.inl (by kernel_rfl))
    have HBl := Lib.hid hP.2
    clear hV hP
    simp only [putL, Act.put, List.setIfInBounds_toArray, List.set_cons_succ, List.set_cons_zero, h42]
    refine wpAnyH_done (by kernel_rfl) ?_ _
    clear h42
    go_wp2_with fail
    go_ret
    exact ⟨rfl, HBl.out⟩
theorem sltell_walk (p : Int) (l : List (BitVec 32)) (k : Int) (w : World) (hl : l.length = 2) :
    Calls Try.prog 3 #[.int .i64 p, .agg (ws l), .int .i64 k] w fun e w' => e = .returned (.bool true) ∧ Below w.heap.size w w' := by
  obtain ⟨x, y, rfl⟩ : ∃ x y, l = [x, y] := by
    match l, hl with
    | [a, b], _ => exact ⟨a, b, rfl⟩
  have hx := x.isLt
  have hy := y.isLt
  show Calls Try.prog 3 #[.int .i64 p, .agg #[.int .u32 (x.toNat : Int), .int .u32 (y.toNat : Int)], .int .i64 k] w fun e w' => e = .returned (.bool true) ∧ Below w.heap.size w w'
  by_cases hp : 0 ≤ p ∧ p < 4
  · obtain ⟨q, rfl⟩ := Int.eq_ofNat_of_zero_le hp.1
    have hq : q < 4 := by omega
    exact sltell_any q _ _ k _ _ _ w (Lib.hid (owner_any _ hx)) (Lib.hid (rowner_any _ hx)) (Lib.hid (next_good q _ hq)) (Lib.hid (rnext_good q _ hq)) (Lib.hid (count_good q _ _ hq hx hy)) (Lib.hid (rcount_good q _ _ hq hx hy))
  · exact sltell_any p _ _ k _ _ _ w (Lib.hid (owner_any _ hx)) (Lib.hid (rowner_any _ hx)) (Lib.hid (next_bad p _ hp)) (Lib.hid (rnext_bad p _ hp)) (Lib.hid (count_bad p _ _ hp)) (Lib.hid (rcount_bad p _ _ hp))
end Go.Proofs.Ytjlcbfjcknkpnaa
