/- The statement CrcParts: its walk. -/
import Derived.Test.YtcgihbjndnlilaaCrcWakes
import Derived.Test.YtcgihbjndnlilaaMod
import Derived.Test.YtcgihbjndnlilaaOpenHalf
namespace Go.Proofs.Ytcgihbjndnlilaa
open Go Go.RowKit
theorem more_at (c : BitVec 16) (q : List (BitVec 8)) (v : Value) (w : World) (hs : Slice w v q) (hn : q.length ≤ maxLen) (R : BitVec 16) (hR : crcMore c q = R) :
    Calls Try.prog 13 #[.int .u16 (hd c), v] w fun e w' => e = .returned (.int .u16 (hd R)) ∧ w = w' := by
  subst hR; exact more_any c q v w hs hn
theorem check_at (ps : List (List (BitVec 8))) (v : Value) (w : World) (hv : Parts w v ps) (hn : ps.length ≤ maxLen) (hq : ∀ q ∈ ps, q.length ≤ maxLen) (R : BitVec 16) (hR : crcOf ps.flatten = R) :
    Calls Try.prog 10 #[v] w fun e w' => e = .returned (.int .u16 (hd R)) ∧ w = w' := by
  subst hR; exact check_any ps v w hv hn hq
theorem hd_beq (x y : BitVec 16) : (hd x == hd y) = decide (x = y) := by
  by_cases h : x = y
  · subst h; simp
  · rw [decide_eq_false h]; exact beq_eq_false_iff_ne.2 fun e => h (hd_inj e)
attribute [local go_sem] not_hd signed_u16
set_option maxRecDepth 20000 in
set_option maxHeartbeats 1600000 in
theorem parts_walk (A : Option Addr) (c : Nat) (q : List (BitVec 8)) (cut : Int) (cs : List (BitVec 16)) (w : World) (hS : Slice w (.slice A q.length c) q) (_ : A = none → c = 0) (hm : q.length ≤ maxLen) (_ : (Lit.int .i64 cut).wf = true) (hcs : cs.length = 2) :
    Calls Try.prog 5 #[.slice A q.length c, .int .i64 cut, .agg (hs cs)] w fun e w' => e = .returned (.bool true) ∧ Below w.heap.size w w' := by
  obtain ⟨c0, c1, rfl⟩ : ∃ c0 c1, cs = [c0, c1] := by
    match cs, hcs with
    | [a, b], _ => exact ⟨a, b, rfl⟩
  have hcap : q.length ≤ c := by obtain ⟨_, _, h1, h2, _⟩ := hS; injection h1 with _ _ h1; omega
  have HS := Lib.hid hS
  have HM := Lib.hid hm
  unfold maxLen at hm
  have hb1 := (Below.refl w.heap.size w).alloc (Nat.le_refl _) (.cells (hs [c0, c1]) 35)
  have r1 := Row.fresh w 35 (hs [c0, c1])
  have HC0 : Hid ((w.alloc (.cells (hs [c0, c1]) 35)).cell? ⟨w.heap.size, 0, none⟩ = some (.int .u16 (hd c0))) := Lib.hid (r1.get rfl)
  have HC1 : Hid ((w.alloc (.cells (hs [c0, c1]) 35)).cell? ⟨w.heap.size, 1, none⟩ = some (.int .u16 (hd c1))) := Lib.hid (r1.get rfl)
  clear hS hcs r1
  by_cases hbig : 3000 < q.length
  · clear HC0 HC1
    go_enter Try.func5, Try.ntmps5
    go_wp2_with fail
    refine (cwakes_any _).mono ?_
    rintro e w1 ⟨rfl, hb⟩
    go_wp2_with fail
    go_ret
    exact ⟨rfl, hb1.trans (hb.mono hb1.size)⟩
  · have hcl : q.length + 1 < 100000 := by omega
    go_enter Try.func5, Try.ntmps5
    go_wp2_with fail
    refine (mod_at cut _ (q.length + 1) _ (by go_num) (by omega) hcl).mono ?_
    rintro e w1 ⟨rfl, rfl⟩
    have hkl := modK_lt cut (q.length + 1) (by omega)
    generalize modK cut (q.length + 1) = k at *
    generalize hW : w.alloc (.cells (hs [c0, c1]) 35) = w1 at *
    clear hW
    have hk0 : (0 : Int) ≤ (k : Int) := by omega
    have hk2 : (k : Int) ≤ (q.length : Int) := by omega
    have hkc : (k : Int) ≤ (c : Int) := by omega
    have hlc : (q.length : Int) ≤ (c : Int) := by omega
    obtain ⟨A', hA'⟩ : ∃ A', (if c = k then A else A.map (·.add k)) = A' := ⟨_, rfl⟩
    have HT := Lib.hid (HS.out.take (k := k) (by omega))
    have hd0 := HS.out.drop (k := k) (by omega)
    rw [hA'] at hd0
    have HD := Lib.hid hd0
    clear hd0
    obtain ⟨Y, hY⟩ : ∃ Y, crcMore 0xffff#16 (q.take k) = Y := ⟨_, rfl⟩
    obtain ⟨R, hR⟩ : ∃ R, crcMore 0xffff#16 q = R := ⟨_, rfl⟩
    obtain ⟨Z, hZ⟩ : ∃ Z, ~~~R = Z := ⟨_, rfl⟩
    obtain ⟨M0, hM0⟩ : ∃ M0, crcMore c0 q = M0 := ⟨_, rfl⟩
    obtain ⟨M1, hM1⟩ : ∃ M1, crcMore c1 q = M1 := ⟨_, rfl⟩
    obtain ⟨t, ht⟩ : ∃ t, decide (c0 = c1) = t := ⟨_, rfl⟩
    have HR1 := Lib.hid hY
    have HR2 : Hid (crcMore Y (q.drop k) = R) := Lib.hid (by rw [← hY, ← crcMore_append, List.take_append_drop]; exact hR)
    have HR3 := Lib.hid hM0
    have HR4 := Lib.hid hM1
    have HZ1 : Hid (crcOf [q].flatten = Z) := Lib.hid (by simp [crcOf, hR, hZ])
    have HZ2 : Hid (crcOf [q.take k, q.drop k].flatten = Z) := Lib.hid (by simp [crcOf, hR, hZ])
    have HZR : Hid (~~~Z = R) := Lib.hid (by rw [← hZ, BitVec.not_not])
    have HE1 : Hid ((hd M0 == hd M1) = t) := Lib.hid (by rw [hd_beq, ← ht, ← hM0, ← hM1]; exact decide_eq_decide.2 (crcMore_inj q))
    have HE2 : Hid ((hd c0 == hd c1) = t) := Lib.hid (by rw [hd_beq, ← ht])
    have HM1 : Hid ((q.take k).length ≤ maxLen) := Lib.hid (by rw [List.length_take]; unfold maxLen; omega)
    have HM2 : Hid ((q.drop k).length ≤ maxLen) := Lib.hid (by rw [List.length_drop]; unfold maxLen; omega)
    have HM3 := HM
    have HQ1 : Hid (∀ p ∈ [q], p.length ≤ maxLen) := Lib.hid (by simpa using HM.out)
    have HQ2 : Hid (∀ p ∈ [q.take k, q.drop k], p.length ≤ maxLen) := Lib.hid fun p hp => (List.mem_cons.1 hp).elim (fun h => by rw [h]; exact HM1.out) (fun h => by rw [List.mem_singleton.1 h]; exact HM2.out)
    clear hY hR hZ hM0 hM1 ht HM
    obtain ⟨n, hn⟩ : ∃ n, q.length = n := ⟨_, rfl⟩
    rw [hn] at HS HD hm hcap hbig hcl hkl hk2 hlc ⊢
    clear hn
    go_wp2_with fail
    refine wp_region_vs (w1.heap.size) [is (.slice A n c), is (.int .i64 (k : Int)), is (.slice A k c), is (.int .u16 (hd Y)), is (.slice A n c), is (.int .i64 (k : Int)), is (.slice A' (n - k) (c - k)), is (.int .u16 (hd R)), is (.slice A n c), pts [q], is (.int .u16 (hd Z)), is (.int .u16 (hd R)), is (.bool true), is (.bool true), is (.slice A n c), is (.int .i64 (k : Int)), is (.slice A k c), is (.slice A n c), is (.int .i64 (k : Int)), is (.slice A' (n - k) (c - k)), pts [q.take k, q.drop k], is (.int .u16 (hd Z)), is (.slice A n c), pts [q], is (.int .u16 (hd Z)), is (.bool true), is (.bool true), is (.bool true), is (.pointer (some ⟨w.heap.size, 0, none⟩)), is (.int .u16 (hd c0)), is (.slice A n c), is (.int .u16 (hd M0)), is (.pointer (some ⟨w.heap.size, 1, none⟩)), is (.int .u16 (hd c1)), is (.slice A n c), is (.int .u16 (hd M1)), is (.bool t), is (.pointer (some ⟨w.heap.size, 0, none⟩)), is (.int .u16 (hd c0)), is (.pointer (some ⟨w.heap.size, 1, none⟩)), is (.int .u16 (hd c1)), is (.bool t), is (.bool true), is (.bool true), is (.bool true), is (.bool true), is (.bool true), is (.bool true)] [some 17, some 18, some 19, some 20, some 21, some 22, some 23, some 24, some 25, some 26, some 27, some 28, some 29, some 30, some 31, some 32, some 33, some 34, some 35, some 36, some 37, some 38, some 39, some 40, some 41, some 42, some 43, some 44, some 45, some 46, some 47, some 48, some 49, some 50, some 51, some 52, some 53, some 54, some 55, some 56, some 57, some 58, some 59, some 60, some 61, some 62, some 63, some 6] 48 48 (fun _ => true) rfl rfl rfl (by kernel_rfl) (by kernel_rfl) ?_ ?_ ?_ ?_
    · repeat first | exact stays_nil _ | refine stays_cons (by first | exact is_stays _ _ | exact lit_stays _ _ | exact sl_stays _ _ | exact pts_stays _ _ | exact hnd_stays _ _ | exact any_stays _) ?_
    · repeat first | exact all_end (by decide) | refine all_cons (by first | exact rfl | exact fun _ _ _ h => h) ?_
    · refine all_step rfl (fun a x W hR hout hin => ?_) ?_
      · have e0 : a.tmps[0]? = some (.slice A n c) := (hout 0 (by kernel_rfl)).trans rfl
        exact does_move rfl e0 ⟨Keeps.refl _ _, rfl⟩
      refine all_step rfl (fun a x W hR hout hin => ?_) ?_
      · have e7 : a.tmps[7]? = some (.int .i64 (k : Int)) := (hout 7 (by kernel_rfl)).trans rfl
        exact does_move rfl e7 ⟨Keeps.refl _ _, rfl⟩
      refine all_step rfl (fun a x W hR hout hin => ?_) ?_
      · have e17 := hin.is 0 17 (by kernel_rfl) (by decide) (by kernel_rfl) _ rfl
        have e18 := hin.is 1 18 (by kernel_rfl) (by decide) (by kernel_rfl) _ rfl
        clear hin hout
        intro K Q hK
        go_simp
        exact hK _ _ ⟨Keeps.refl _ _, rfl⟩
      refine all_step rfl (fun a x W hR hout hin => ?_) ?_
      · have e19 := hin.is 2 19 (by kernel_rfl) (by decide) (by kernel_rfl) _ rfl
        have st : Slice W (.slice A k c) (q.take k) := HT.out.below (hb1.trans ((Below.refl w.heap.size w1).drew.trans (hR.below.mono hb1.size))) (Nat.le_refl _)
        clear hin hout
        intro K Q hK
        go_simp
        refine (more_at 0xffff#16 (q.take k) _ W st (by first | exact HM1.out | exact HM2.out | exact HM3.out) Y (by first | exact HR1.out | exact HR2.out | exact HR3.out | exact HR4.out)).mono ?_
        rintro e W' ⟨rfl, rfl⟩
        exact hK _ _ ⟨Keeps.refl _ _, rfl⟩
      refine all_step rfl (fun a x W hR hout hin => ?_) ?_
      · have e0 : a.tmps[0]? = some (.slice A n c) := (hout 0 (by kernel_rfl)).trans rfl
        exact does_move rfl e0 ⟨Keeps.refl _ _, rfl⟩
      refine all_step rfl (fun a x W hR hout hin => ?_) ?_
      · have e7 : a.tmps[7]? = some (.int .i64 (k : Int)) := (hout 7 (by kernel_rfl)).trans rfl
        exact does_move rfl e7 ⟨Keeps.refl _ _, rfl⟩
      refine all_step rfl (fun a x W hR hout hin => ?_) ?_
      · have e21 := hin.is 4 21 (by kernel_rfl) (by decide) (by kernel_rfl) _ rfl
        have e22 := hin.is 5 22 (by kernel_rfl) (by decide) (by kernel_rfl) _ rfl
        have hA0 := hA'
        clear hin hout
        intro K Q hK
        go_simp
        exact hK _ _ ⟨Keeps.refl _ _, rfl⟩
      refine all_step rfl (fun a x W hR hout hin => ?_) ?_
      · have e20 := hin.is 3 20 (by kernel_rfl) (by decide) (by kernel_rfl) _ rfl
        have e23 := hin.is 6 23 (by kernel_rfl) (by decide) (by kernel_rfl) _ rfl
        have sd : Slice W (.slice A' (n - k) (c - k)) (q.drop k) := HD.out.below (hb1.trans ((Below.refl w.heap.size w1).drew.trans (hR.below.mono hb1.size))) (Nat.le_refl _)
        clear hin hout
        intro K Q hK
        go_simp
        refine (more_at Y (q.drop k) _ W sd (by first | exact HM1.out | exact HM2.out | exact HM3.out) R (by first | exact HR1.out | exact HR2.out | exact HR3.out | exact HR4.out)).mono ?_
        rintro e W' ⟨rfl, rfl⟩
        exact hK _ _ ⟨Keeps.refl _ _, rfl⟩
      refine all_step rfl (fun a x W hR hout hin => ?_) ?_
      · have e0 : a.tmps[0]? = some (.slice A n c) := (hout 0 (by kernel_rfl)).trans rfl
        exact does_move rfl e0 ⟨Keeps.refl _ _, rfl⟩
      refine all_step rfl (fun a x W hR hout hin => ?_) ?_
      · have e25 := hin.is 8 25 (by kernel_rfl) (by decide) (by kernel_rfl) _ rfl
        have sq : Slice W (.slice A n c) q := HS.out.below (hb1.trans ((Below.refl w.heap.size w1).drew.trans (hR.below.mono hb1.size))) (Nat.le_refl _)
        clear hin hout
        intro K Q hK
        go_simp
        exact hK _ _ ⟨Keeps.alloc _ _ hR.below.size, parts1 sq⟩
      refine all_step rfl (fun a x W hR hout hin => ?_) ?_
      · obtain ⟨v26, e26, hv26⟩ := hin.get 9 26 (by kernel_rfl) (by decide) (by kernel_rfl)
        clear hin hout
        intro K Q hK
        go_simp
        refine (check_at [q] _ W hv26 (by simp [maxLen]) (by first | exact HQ1.out | exact HQ2.out) Z (by first | exact HZ1.out | exact HZ2.out)).mono ?_
        rintro e W' ⟨rfl, rfl⟩
        exact hK _ _ ⟨Keeps.refl _ _, rfl⟩
      refine all_step rfl (fun a x W hR hout hin => ?_) ?_
      · have e27 := hin.is 10 27 (by kernel_rfl) (by decide) (by kernel_rfl) _ rfl
        clear hin hout
        intro K Q hK
        go_simp
        exact hK _ _ ⟨Keeps.refl _ _, by rw [HZR.out]; rfl⟩
      refine all_step rfl (fun a x W hR hout hin => ?_) ?_
      · have e24 := hin.is 7 24 (by kernel_rfl) (by decide) (by kernel_rfl) _ rfl
        have e28 := hin.is 11 28 (by kernel_rfl) (by decide) (by kernel_rfl) _ rfl
        clear hin hout
        intro K Q hK
        go_simp
        exact hK _ _ ⟨Keeps.refl _ _, rfl⟩
      refine all_step rfl (fun a x W hR hout hin => ?_) ?_
      · have e29 := hin.is 12 29 (by kernel_rfl) (by decide) (by kernel_rfl) _ rfl
        exact does_move rfl e29 ⟨Keeps.refl _ _, rfl⟩
      refine all_step rfl (fun a x W hR hout hin => ?_) ?_
      · have e0 : a.tmps[0]? = some (.slice A n c) := (hout 0 (by kernel_rfl)).trans rfl
        exact does_move rfl e0 ⟨Keeps.refl _ _, rfl⟩
      refine all_step rfl (fun a x W hR hout hin => ?_) ?_
      · have e7 : a.tmps[7]? = some (.int .i64 (k : Int)) := (hout 7 (by kernel_rfl)).trans rfl
        exact does_move rfl e7 ⟨Keeps.refl _ _, rfl⟩
      refine all_step rfl (fun a x W hR hout hin => ?_) ?_
      · have e31 := hin.is 14 31 (by kernel_rfl) (by decide) (by kernel_rfl) _ rfl
        have e32 := hin.is 15 32 (by kernel_rfl) (by decide) (by kernel_rfl) _ rfl
        clear hin hout
        intro K Q hK
        go_simp
        exact hK _ _ ⟨Keeps.refl _ _, rfl⟩
      refine all_step rfl (fun a x W hR hout hin => ?_) ?_
      · have e0 : a.tmps[0]? = some (.slice A n c) := (hout 0 (by kernel_rfl)).trans rfl
        exact does_move rfl e0 ⟨Keeps.refl _ _, rfl⟩
      refine all_step rfl (fun a x W hR hout hin => ?_) ?_
      · have e7 : a.tmps[7]? = some (.int .i64 (k : Int)) := (hout 7 (by kernel_rfl)).trans rfl
        exact does_move rfl e7 ⟨Keeps.refl _ _, rfl⟩
      refine all_step rfl (fun a x W hR hout hin => ?_) ?_
      · have e34 := hin.is 17 34 (by kernel_rfl) (by decide) (by kernel_rfl) _ rfl
        have e35 := hin.is 18 35 (by kernel_rfl) (by decide) (by kernel_rfl) _ rfl
        have hA0 := hA'
        clear hin hout
        intro K Q hK
        go_simp
        exact hK _ _ ⟨Keeps.refl _ _, rfl⟩
      refine all_step rfl (fun a x W hR hout hin => ?_) ?_
      · have e33 := hin.is 16 33 (by kernel_rfl) (by decide) (by kernel_rfl) _ rfl
        have e36 := hin.is 19 36 (by kernel_rfl) (by decide) (by kernel_rfl) _ rfl
        have st : Slice W (.slice A k c) (q.take k) := HT.out.below (hb1.trans ((Below.refl w.heap.size w1).drew.trans (hR.below.mono hb1.size))) (Nat.le_refl _)
        have sd : Slice W (.slice A' (n - k) (c - k)) (q.drop k) := HD.out.below (hb1.trans ((Below.refl w.heap.size w1).drew.trans (hR.below.mono hb1.size))) (Nat.le_refl _)
        clear hin hout
        intro K Q hK
        go_simp
        exact hK _ _ ⟨Keeps.alloc _ _ hR.below.size, parts2 st sd⟩
      refine all_step rfl (fun a x W hR hout hin => ?_) ?_
      · obtain ⟨v37, e37, hv37⟩ := hin.get 20 37 (by kernel_rfl) (by decide) (by kernel_rfl)
        clear hin hout
        intro K Q hK
        go_simp
        refine (check_at [q.take k, q.drop k] _ W hv37 (by simp [maxLen]) (by first | exact HQ1.out | exact HQ2.out) Z (by first | exact HZ1.out | exact HZ2.out)).mono ?_
        rintro e W' ⟨rfl, rfl⟩
        exact hK _ _ ⟨Keeps.refl _ _, rfl⟩
      refine all_step rfl (fun a x W hR hout hin => ?_) ?_
      · have e0 : a.tmps[0]? = some (.slice A n c) := (hout 0 (by kernel_rfl)).trans rfl
        exact does_move rfl e0 ⟨Keeps.refl _ _, rfl⟩
      refine all_step rfl (fun a x W hR hout hin => ?_) ?_
      · have e39 := hin.is 22 39 (by kernel_rfl) (by decide) (by kernel_rfl) _ rfl
        have sq : Slice W (.slice A n c) q := HS.out.below (hb1.trans ((Below.refl w.heap.size w1).drew.trans (hR.below.mono hb1.size))) (Nat.le_refl _)
        clear hin hout
        intro K Q hK
        go_simp
        exact hK _ _ ⟨Keeps.alloc _ _ hR.below.size, parts1 sq⟩
      refine all_step rfl (fun a x W hR hout hin => ?_) ?_
      · obtain ⟨v40, e40, hv40⟩ := hin.get 23 40 (by kernel_rfl) (by decide) (by kernel_rfl)
        clear hin hout
        intro K Q hK
        go_simp
        refine (check_at [q] _ W hv40 (by simp [maxLen]) (by first | exact HQ1.out | exact HQ2.out) Z (by first | exact HZ1.out | exact HZ2.out)).mono ?_
        rintro e W' ⟨rfl, rfl⟩
        exact hK _ _ ⟨Keeps.refl _ _, rfl⟩
      refine all_step rfl (fun a x W hR hout hin => ?_) ?_
      · have e38 := hin.is 21 38 (by kernel_rfl) (by decide) (by kernel_rfl) _ rfl
        have e41 := hin.is 24 41 (by kernel_rfl) (by decide) (by kernel_rfl) _ rfl
        clear hin hout
        intro K Q hK
        go_simp
        exact hK _ _ ⟨Keeps.refl _ _, rfl⟩
      refine all_step rfl (fun a x W hR hout hin => ?_) ?_
      · have e30 := hin.is 13 30 (by kernel_rfl) (by decide) (by kernel_rfl) _ rfl
        have e42 := hin.is 25 42 (by kernel_rfl) (by decide) (by kernel_rfl) _ rfl
        exact does_pick rfl e30 ⟨Keeps.refl _ _, eval_of_get e42⟩
      refine all_step rfl (fun a x W hR hout hin => ?_) ?_
      · have e43 := hin.is 26 43 (by kernel_rfl) (by decide) (by kernel_rfl) _ rfl
        exact does_move rfl e43 ⟨Keeps.refl _ _, rfl⟩
      refine all_step rfl (fun a x W hR hout hin => ?_) ?_
      · have e5 : a.tmps[5]? = some (.pointer (some ⟨w.heap.size, 0, none⟩)) := (hout 5 (by kernel_rfl)).trans rfl
        clear hin hout
        intro K Q hK
        go_simp
        exact hK _ _ ⟨Keeps.refl _ _, rfl⟩
      refine all_step rfl (fun a x W hR hout hin => ?_) ?_
      · have e45 := hin.is 28 45 (by kernel_rfl) (by decide) (by kernel_rfl) _ rfl
        have hc := hR.cell (a := ⟨w.heap.size, 0, none⟩) HC0.out
        clear hin hout
        intro K Q hK
        go_simp
        exact hK _ _ ⟨Keeps.refl _ _, rfl⟩
      refine all_step rfl (fun a x W hR hout hin => ?_) ?_
      · have e0 : a.tmps[0]? = some (.slice A n c) := (hout 0 (by kernel_rfl)).trans rfl
        exact does_move rfl e0 ⟨Keeps.refl _ _, rfl⟩
      refine all_step rfl (fun a x W hR hout hin => ?_) ?_
      · have e46 := hin.is 29 46 (by kernel_rfl) (by decide) (by kernel_rfl) _ rfl
        have e47 := hin.is 30 47 (by kernel_rfl) (by decide) (by kernel_rfl) _ rfl
        have sq : Slice W (.slice A n c) q := HS.out.below (hb1.trans ((Below.refl w.heap.size w1).drew.trans (hR.below.mono hb1.size))) (Nat.le_refl _)
        clear hin hout
        intro K Q hK
        go_simp
        refine (more_at c0 q _ W sq (by first | exact HM1.out | exact HM2.out | exact HM3.out) M0 (by first | exact HR1.out | exact HR2.out | exact HR3.out | exact HR4.out)).mono ?_
        rintro e W' ⟨rfl, rfl⟩
        exact hK _ _ ⟨Keeps.refl _ _, rfl⟩
      refine all_step rfl (fun a x W hR hout hin => ?_) ?_
      · have e5 : a.tmps[5]? = some (.pointer (some ⟨w.heap.size, 0, none⟩)) := (hout 5 (by kernel_rfl)).trans rfl
        clear hin hout
        intro K Q hK
        go_simp
        exact hK _ _ ⟨Keeps.refl _ _, rfl⟩
      refine all_step rfl (fun a x W hR hout hin => ?_) ?_
      · have e49 := hin.is 32 49 (by kernel_rfl) (by decide) (by kernel_rfl) _ rfl
        have hc := hR.cell (a := ⟨w.heap.size, 1, none⟩) HC1.out
        clear hin hout
        intro K Q hK
        go_simp
        exact hK _ _ ⟨Keeps.refl _ _, rfl⟩
      refine all_step rfl (fun a x W hR hout hin => ?_) ?_
      · have e0 : a.tmps[0]? = some (.slice A n c) := (hout 0 (by kernel_rfl)).trans rfl
        exact does_move rfl e0 ⟨Keeps.refl _ _, rfl⟩
      refine all_step rfl (fun a x W hR hout hin => ?_) ?_
      · have e50 := hin.is 33 50 (by kernel_rfl) (by decide) (by kernel_rfl) _ rfl
        have e51 := hin.is 34 51 (by kernel_rfl) (by decide) (by kernel_rfl) _ rfl
        have sq : Slice W (.slice A n c) q := HS.out.below (hb1.trans ((Below.refl w.heap.size w1).drew.trans (hR.below.mono hb1.size))) (Nat.le_refl _)
        clear hin hout
        intro K Q hK
        go_simp
        refine (more_at c1 q _ W sq (by first | exact HM1.out | exact HM2.out | exact HM3.out) M1 (by first | exact HR1.out | exact HR2.out | exact HR3.out | exact HR4.out)).mono ?_
        rintro e W' ⟨rfl, rfl⟩
        exact hK _ _ ⟨Keeps.refl _ _, rfl⟩
      refine all_step rfl (fun a x W hR hout hin => ?_) ?_
      · have e48 := hin.is 31 48 (by kernel_rfl) (by decide) (by kernel_rfl) _ rfl
        have e52 := hin.is 35 52 (by kernel_rfl) (by decide) (by kernel_rfl) _ rfl
        have q1 := HE1.out
        clear hin hout
        intro K Q hK
        go_simp
        exact hK _ _ ⟨Keeps.refl _ _, rfl⟩
      refine all_step rfl (fun a x W hR hout hin => ?_) ?_
      · have e5 : a.tmps[5]? = some (.pointer (some ⟨w.heap.size, 0, none⟩)) := (hout 5 (by kernel_rfl)).trans rfl
        clear hin hout
        intro K Q hK
        go_simp
        exact hK _ _ ⟨Keeps.refl _ _, rfl⟩
      refine all_step rfl (fun a x W hR hout hin => ?_) ?_
      · have e54 := hin.is 37 54 (by kernel_rfl) (by decide) (by kernel_rfl) _ rfl
        have hc := hR.cell (a := ⟨w.heap.size, 0, none⟩) HC0.out
        clear hin hout
        intro K Q hK
        go_simp
        exact hK _ _ ⟨Keeps.refl _ _, rfl⟩
      refine all_step rfl (fun a x W hR hout hin => ?_) ?_
      · have e5 : a.tmps[5]? = some (.pointer (some ⟨w.heap.size, 0, none⟩)) := (hout 5 (by kernel_rfl)).trans rfl
        clear hin hout
        intro K Q hK
        go_simp
        exact hK _ _ ⟨Keeps.refl _ _, rfl⟩
      refine all_step rfl (fun a x W hR hout hin => ?_) ?_
      · have e56 := hin.is 39 56 (by kernel_rfl) (by decide) (by kernel_rfl) _ rfl
        have hc := hR.cell (a := ⟨w.heap.size, 1, none⟩) HC1.out
        clear hin hout
        intro K Q hK
        go_simp
        exact hK _ _ ⟨Keeps.refl _ _, rfl⟩
      refine all_step rfl (fun a x W hR hout hin => ?_) ?_
      · have e55 := hin.is 38 55 (by kernel_rfl) (by decide) (by kernel_rfl) _ rfl
        have e57 := hin.is 40 57 (by kernel_rfl) (by decide) (by kernel_rfl) _ rfl
        have q1 := HE2.out
        clear hin hout
        intro K Q hK
        go_simp
        exact hK _ _ ⟨Keeps.refl _ _, rfl⟩
      refine all_step rfl (fun a x W hR hout hin => ?_) ?_
      · have e53 := hin.is 36 53 (by kernel_rfl) (by decide) (by kernel_rfl) _ rfl
        have e58 := hin.is 41 58 (by kernel_rfl) (by decide) (by kernel_rfl) _ rfl
        have q1 : (t == t) = true := beq_self_eq_true t
        clear hin hout
        intro K Q hK
        go_simp
        exact hK _ _ ⟨Keeps.refl _ _, rfl⟩
      refine all_step rfl (fun a x W hR hout hin => ?_) ?_
      · have e44 := hin.is 27 44 (by kernel_rfl) (by decide) (by kernel_rfl) _ rfl
        have e59 := hin.is 42 59 (by kernel_rfl) (by decide) (by kernel_rfl) _ rfl
        exact does_pick rfl e44 ⟨Keeps.refl _ _, eval_of_get e59⟩
      refine all_step rfl (fun a x W hR hout hin => ?_) ?_
      · have e60 := hin.is 43 60 (by kernel_rfl) (by decide) (by kernel_rfl) _ rfl
        exact does_move rfl e60 ⟨Keeps.refl _ _, rfl⟩
      refine all_step rfl (fun a x W hR hout hin => ?_) ?_
      · clear hin hout
        intro K Q hK
        go_simp
        refine (cwakes_any W).mono ?_
        rintro e W' ⟨rfl, hb⟩
        exact hK _ _ ⟨Keeps.call hb hR.below.size, rfl⟩
      refine all_step rfl (fun a x W hR hout hin => ?_) ?_
      · have e61 := hin.is 44 61 (by kernel_rfl) (by decide) (by kernel_rfl) _ rfl
        have e62 := hin.is 45 62 (by kernel_rfl) (by decide) (by kernel_rfl) _ rfl
        exact does_pick rfl e61 ⟨Keeps.refl _ _, eval_of_get e62⟩
      refine all_step rfl (fun a x W hR hout hin => ?_) ?_
      · have e63 := hin.is 46 63 (by kernel_rfl) (by decide) (by kernel_rfl) _ rfl
        exact does_assign rfl e63 ⟨Keeps.refl _ _, rfl⟩
      exact all_end (by decide)
    · intro x W hKW hV
      have h47 : x 47 = .bool true := hV 47 (by decide)
      clear hV
      simp only [putL, Act.put, List.setIfInBounds_toArray, List.set_cons_succ, List.set_cons_zero, h47]
      refine wpAnyH_done (by kernel_rfl) ?_ _
      have hbW := hb1.trans ((Below.refl w.heap.size w1).drew.trans (hKW.below.mono hb1.size))
      clear hKW h47
      go_wp2_with fail
      go_ret
      exact ⟨rfl, hbW⟩
end Go.Proofs.Ytcgihbjndnlilaa
