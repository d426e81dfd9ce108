/- Numbers as bytes in a row, the lowest first, as the program's label puts and reads them. -/
import Derived.Test.YtnmnokipbbibiaaLabelIf
import Derived.Test.YtnmnokipbbibiaaSealPrgD
namespace Go.Proofs.Ytnmnokipbbibiaa
open Go Go.RowKit
def sh (o : Nat) (q : List (BitVec 8)) (n : BitVec 16) : List (BitVec 8) := (q.set o (n.setWidth 8)).set (o + 1) ((n >>> 8).setWidth 8)
def lg (o : Nat) (q : List (BitVec 8)) (v : BitVec 32) : List (BitVec 8) := sh (o + 2) (sh o q (v.setWidth 16)) ((v >>> 16).setWidth 16)
def sv (o : Nat) (q : List (BitVec 8)) : BitVec 16 := (q.getD o 0#8).setWidth 16 ||| ((q.getD (o + 1) 0#8).setWidth 16) <<< 8
def lv (o : Nat) (q : List (BitVec 8)) : BitVec 32 := (sv o q).setWidth 32 ||| ((sv (o + 2) q).setWidth 32) <<< 16
theorem length_sh (o : Nat) (q : List (BitVec 8)) (n : BitVec 16) : (sh o q n).length = q.length := by simp [sh]
theorem length_lg (o : Nat) (q : List (BitVec 8)) (v : BitVec 32) : (lg o q v).length = q.length := by simp [lg, length_sh]
theorem St.one {w : World} {g : Nat} {t : TypeId} {cs : Array Value} (h : Row w g t cs) : St w (fun k => k = g) [⟨g, t, cs⟩] w :=
  ⟨Chg.refl _ _, fun k r hk => by
    cases k with
    | zero => cases hk; exact h
    | succ k => simp at hk, fun j k r s hne hj hk => by
    cases j with
    | zero => cases k with
      | zero => exact absurd rfl hne
      | succ k => simp at hk
    | succ j => simp at hj, fun k r hk => by
    cases k with
    | zero => cases hk; exact .inl rfl
    | succ k => simp at hk⟩
theorem St.only {w w' : World} {g : Nat} {R : List Blk} (h : St w (fun k => k = g) R w') : w.grownBy w' (some g) :=
  ⟨h.chg.os, h.chg.tape, h.chg.output, h.chg.size, fun k hk hne => h.chg.block k hk (fun e => hne (by rw [e]))⟩
theorem shr16_wd (x : BitVec 32) : IntKind.u16.wrap (wd x / (65536 : Int)) = hd ((x >>> 16).setWidth 16) := by rw [show wd x / (65536 : Int) = wd (x >>> 16) from shr_wd x 16, conv_wd16]
theorem get_sh (q : List (BitVec 8)) (o : Nat) (h : o < q.length) {x : BitVec 8} (hx : q.getD o 0#8 = x) : (bs q)[o]? = some (.int .u8 (bd x)) := by rw [← hx]; exact get_bs q o h
attribute [local go_sem] lowb_hd lowb8_hd convb_hd shl8_hd or_hd conv_wd16 shr16_wd conv_hd or_wd shl16_wd
set_option maxHeartbeats 400000 in
theorem putshort_any (g o len c : Nat) (t : TypeId) (q : List (BitVec 8)) (n : BitVec 16) (w : World) (hR : Row w g t (bs q)) (ha : o + 2 ≤ q.length) (hl : 2 ≤ len) :
    Calls Try.prog 30 #[.slice (some ⟨g, o, none⟩) len c, .int .u16 (hd n)] w fun e w' => e = .returned (.tuple #[]) ∧ Row w' g t (bs (sh o q n)) ∧ w.grownBy w' (some g) := by
  have hl0 : (0 : Int) < (len : Int) := by omega
  have hl1 : (1 : Int) < (len : Int) := by omega
  have HS := St.one hR
  clear hR hl
  go_enter Try.func30, Try.ntmps30
  go_wp2_with (first | ((with_reducible refine wpList_plain ?_ ?_); exact rfl; intro KK hKK; refine wp_st_put HS 0 o 5 (.tmp 7) (.tmp 6) rfl rfl rfl (.int .u8 (bd (n.setWidth 8))) rfl (by kernel_rfl) rfl rfl (by rw [size_bs]; omega) (bs (q.set o (n.setWidth 8))) (set_bs _ _ _) (fun W1 HSx => hKK _ _ ?_); clear hKK KK HS; have HS : St w (fun k => k = g) [⟨g, t, bs (q.set o (n.setWidth 8))⟩] W1 := HSx; clear HSx) | ((with_reducible refine wpList_plain ?_ ?_); exact rfl; intro KK hKK; refine wp_st_put HS 0 (o + 1) 5 (.tmp 12) (.tmp 11) rfl rfl rfl (.int .u8 (bd ((n >>> 8).setWidth 8))) rfl (by kernel_rfl) rfl rfl (by rw [size_bs, List.length_set]; omega) (bs (sh o q n)) (set_bs _ _ _) (fun W2 HSx => hKK _ _ ?_); clear hKK KK HS; have HS : St w (fun k => k = g) [⟨g, t, bs (sh o q n)⟩] W2 := HSx; clear HSx))
  go_end0
  exact ⟨rfl, HS.row 0 rfl, HS.only⟩
set_option maxHeartbeats 400000 in
theorem putlong_any (g o len c : Nat) (t : TypeId) (q : List (BitVec 8)) (v : BitVec 32) (w : World) (hR : Row w g t (bs q)) (ha : o + 4 ≤ q.length) (hl : 4 ≤ len) (hc : len ≤ c) :
    Calls Try.prog 29 #[.slice (some ⟨g, o, none⟩) len c, .int .u32 (wd v)] w fun e w' => e = .returned (.tuple #[]) ∧ Row w' g t (bs (lg o q v)) ∧ w.grownBy w' (some g) := by
  have C1 := putshort_any g o len c t q (v.setWidth 16) w hR (by omega) (by omega)
  have HA : Hid (o + 4 ≤ q.length ∧ 4 ≤ len) := Lib.hid ⟨ha, hl⟩
  have hl2 : (2 : Int) ≤ (len : Int) := by omega
  have hc2 : (len : Int) ≤ (c : Int) := by omega
  have hcc : (2 : Int) ≤ (c : Int) := by omega
  have hne : ¬ c = 2 := by omega
  clear hR ha hl hc
  go_enter Try.func29, Try.ntmps29
  go_wp2_with fail
  refine C1.mono ?_
  rintro e w1 ⟨rfl, r1, g1⟩
  clear C1
  have C2 := putshort_any g (o + 2) (len - 2) (c - 2) t (sh o q (v.setWidth 16)) ((v >>> 16).setWidth 16) w1 r1 (by rw [length_sh]; have := HA.out; omega) (by have := HA.out; omega)
  clear r1
  go_wp2_with fail
  refine C2.mono ?_
  rintro e w2 ⟨rfl, r2, g2⟩
  clear C2
  go_wp2_with fail
  go_end0
  exact ⟨rfl, r2, only_trans g1 g2⟩
set_option maxHeartbeats 800000 in
theorem short_any (g o len c : Nat) (t : TypeId) (q : List (BitVec 8)) (w : World) (hR : Row w g t (bs q)) (ha : o + 2 ≤ q.length) (hl : 2 ≤ len) :
    Calls Try.prog 28 #[.slice (some ⟨g, o, none⟩) len c] w fun e w' => e = .returned (.int .u16 (hd (sv o q))) ∧ Below w.heap.size w w' := by
  have hl0 : (0 : Int) < (len : Int) := by omega
  have hl1 : (1 : Int) < (len : Int) := by omega
  have hn0 : 0 < len := by omega
  have hn1 : 1 < len := by omega
  have H0 : Hid (o < q.length) := Lib.hid (by omega)
  have H1 : Hid (o + 1 < q.length) := Lib.hid (by omega)
  clear ha hl
  have hF0 : Wl [fun W => Below w.heap.size w W ∧ Row W g t (bs q)] 0 w.drew := ⟨(Below.refl _ _).drew, hR⟩
  clear hR
  go_enter Try.func28, Try.ntmps28
  go_upto_region 1 with fail
  refine wp_region_phs [is (.slice (some ⟨g, o, none⟩) len c), is (.pointer (some ⟨g, o, none⟩)), is (.int .u8 (bd (q.getD o 0#8))), is (.int .u16 (hd ((q.getD o 0#8).setWidth 16))), is (.slice (some ⟨g, o, none⟩) len c), is (.pointer (some ⟨g, o + 1, none⟩)), is (.int .u8 (bd (q.getD (o + 1) 0#8))), is (.int .u16 (hd ((q.getD (o + 1) 0#8).setWidth 16))), is (.int .u16 (hd (((q.getD (o + 1) 0#8).setWidth 16) <<< 8))), is (.int .u16 (hd (sv o q))), is (.int .u16 (hd (sv o q)))] [true, true, true, true, true, true, true, true, true, true, true] [(fun W => Below w.heap.size w W ∧ Row W g t (bs q))] [false, false, false, false, false, false, false, false, false, false, false] [some 0, some 0, some 0, some 0, some 0, some 0, some 0, some 0, some 0, some 0, some 0] [some 3, some 4, some 5, some 6, some 7, some 8, some 9, some 10, some 11, some 12, some 2] 11 0 (fun _ => true) rfl rfl (by kernel_rfl) (by kernel_rfl) (by kernel_rfl) (by kernel_rfl) ?_ ?_ ?_ ?_ ?_ ?_
  · repeat first | exact wok_nil | refine wok_cons (by first | exact fun _ _ h k => ⟨h.1.trans (k.mono h.1.size), h.2.call k⟩) ?_
  · repeat first | exact vok_nil | refine vok_rig (by first | exact fun _ _ _ h => h) ?_ | refine vok_soft (by first | exact fun _ _ _ h _ => h) ?_
  · exact hF0
  · repeat first | exact all_end (by decide) | refine all_cons (by first | exact rfl | exact ⟨rfl, fun _ _ h => Or.inl h⟩ | exact ⟨rfl, fun _ _ h => Or.inr ⟨h, rfl⟩⟩) ?_
  · refine allp_mild 0 rfl rfl rfl (fun a x W hout hin hP => ?_) ?_
    · have e0 : a.tmps[0]? = some (.slice (some ⟨g, o, none⟩) len c) := (hout 0 (by kernel_rfl)).trans rfl
      exact does_move rfl e0 ⟨Same.refl _, rfl⟩
    refine allp_mild 0 rfl rfl rfl (fun a x W hout hin hP => ?_) ?_
    · have e3 := hin.is 0 3 (by kernel_rfl) (by decide) (by kernel_rfl) (by kernel_rfl) _ rfl
      clear hin hout
      intro K Q hK
      go_simp
      exact hK _ _ ⟨Same.refl _, rfl⟩
    refine allp_mild 0 rfl rfl rfl (fun a x W hout hin hP => ?_) ?_
    · have e4 := hin.is 1 4 (by kernel_rfl) (by decide) (by kernel_rfl) (by kernel_rfl) _ rfl
      have hc := hP.2.get (i := o) (get_bs q o H0.out)
      clear hP
      clear hin hout
      intro K Q hK
      go_simp
      exact hK _ _ ⟨Same.refl _, rfl⟩
    refine allp_mild 0 rfl rfl rfl (fun a x W hout hin hP => ?_) ?_
    · have e5 := hin.is 2 5 (by kernel_rfl) (by decide) (by kernel_rfl) (by kernel_rfl) _ rfl
      clear hin hout
      intro K Q hK
      go_simp
      exact hK _ _ ⟨Same.refl _, rfl⟩
    refine allp_mild 0 rfl rfl rfl (fun a x W hout hin hP => ?_) ?_
    · have e0 : a.tmps[0]? = some (.slice (some ⟨g, o, none⟩) len c) := (hout 0 (by kernel_rfl)).trans rfl
      exact does_move rfl e0 ⟨Same.refl _, rfl⟩
    refine allp_mild 0 rfl rfl rfl (fun a x W hout hin hP => ?_) ?_
    · have e7 := hin.is 4 7 (by kernel_rfl) (by decide) (by kernel_rfl) (by kernel_rfl) _ rfl
      clear hin hout
      intro K Q hK
      go_simp
      exact hK _ _ ⟨Same.refl _, rfl⟩
    refine allp_mild 0 rfl rfl rfl (fun a x W hout hin hP => ?_) ?_
    · have e8 := hin.is 5 8 (by kernel_rfl) (by decide) (by kernel_rfl) (by kernel_rfl) _ rfl
      have hc := hP.2.get (i := o + 1) (get_bs q (o + 1) H1.out)
      clear hP
      clear hin hout
      intro K Q hK
      go_simp
      exact hK _ _ ⟨Same.refl _, rfl⟩
    refine allp_mild 0 rfl rfl rfl (fun a x W hout hin hP => ?_) ?_
    · have e9 := hin.is 6 9 (by kernel_rfl) (by decide) (by kernel_rfl) (by kernel_rfl) _ rfl
      clear hin hout
      intro K Q hK
      go_simp
      exact hK _ _ ⟨Same.refl _, rfl⟩
    refine allp_mild 0 rfl rfl rfl (fun a x W hout hin hP => ?_) ?_
    · have e10 := hin.is 7 10 (by kernel_rfl) (by decide) (by kernel_rfl) (by kernel_rfl) _ rfl
      clear hin hout
      intro K Q hK
      go_simp
      exact hK _ _ ⟨Same.refl _, rfl⟩
    refine allp_mild 0 rfl rfl rfl (fun a x W hout hin hP => ?_) ?_
    · have e6 := hin.is 3 6 (by kernel_rfl) (by decide) (by kernel_rfl) (by kernel_rfl) _ rfl
      have e11 := hin.is 8 11 (by kernel_rfl) (by decide) (by kernel_rfl) (by kernel_rfl) _ rfl
      clear hin hout
      intro K Q hK
      go_simp
      exact hK _ _ ⟨Same.refl _, rfl⟩
    refine allp_mild 0 rfl rfl rfl (fun a x W hout hin hP => ?_) ?_
    · have e12 := hin.is 9 12 (by kernel_rfl) (by decide) (by kernel_rfl) (by kernel_rfl) _ rfl
      exact does_assign rfl e12 ⟨Same.refl _, rfl⟩
    exact all_end (by decide)
  · intro x W hP hV
    have hb := hP.1
    have h10 : x 10 = .int .u16 (hd (sv o q)) := hV 10 (by decide) (.inl (by kernel_rfl))
    clear hP hV
    simp only [putL, Act.put, List.setIfInBounds_toArray, List.set_cons_succ, List.set_cons_zero, h10]
    refine wpAnyH_done (by kernel_rfl) ?_ _
    clear h10
    go_wp2_with fail
    go_ret
    exact ⟨rfl, hb⟩
set_option maxHeartbeats 800000 in
theorem long_any (g o len c : Nat) (t : TypeId) (q : List (BitVec 8)) (w : World) (hR : Row w g t (bs q)) (ha : o + 4 ≤ q.length) (hl : 4 ≤ len) (hc : len ≤ c) :
    Calls Try.prog 27 #[.slice (some ⟨g, o, none⟩) len c] w fun e w' => e = .returned (.int .u32 (wd (lv o q))) ∧ Below w.heap.size w w' := by
  have hl2 : (2 : Int) ≤ (len : Int) := by omega
  have hc2 : (len : Int) ≤ (c : Int) := by omega
  have hcc : (2 : Int) ≤ (c : Int) := by omega
  have hne : ¬ c = 2 := by omega
  have hn2 : 2 ≤ len := by omega
  have hn3 : 2 ≤ c := by omega
  have H0 : Hid (o + 2 ≤ q.length ∧ 2 ≤ len) := Lib.hid ⟨by omega, by omega⟩
  have H2 : Hid (o + 2 + 2 ≤ q.length ∧ 2 ≤ len - 2) := Lib.hid ⟨by omega, by omega⟩
  clear ha hl hc
  have hF0 : Wl [fun W => Below w.heap.size w W ∧ Row W g t (bs q)] 0 w.drew := ⟨(Below.refl _ _).drew, hR⟩
  clear hR
  go_enter Try.func27, Try.ntmps27
  go_upto_region 1 with fail
  refine wp_region_phs [is (.slice (some ⟨g, o, none⟩) len c), is (.int .u16 (hd (sv o q))), is (.int .u32 (wd ((sv o q).setWidth 32))), is (.slice (some ⟨g, o, none⟩) len c), is (.slice (some ⟨g, o + 2, none⟩) (len - 2) (c - 2)), is (.int .u16 (hd (sv (o + 2) q))), is (.int .u32 (wd ((sv (o + 2) q).setWidth 32))), is (.int .u32 (wd (((sv (o + 2) q).setWidth 32) <<< 16))), is (.int .u32 (wd (lv o q))), is (.int .u32 (wd (lv o q)))] [true, true, true, true, true, true, true, true, true, true] [(fun W => Below w.heap.size w W ∧ Row W g t (bs q))] [false, false, false, false, false, false, false, false, false, false] [some 0, some 0, some 0, some 0, some 0, some 0, some 0, some 0, some 0, some 0] [some 3, some 4, some 5, some 6, some 7, some 8, some 9, some 10, some 11, some 2] 10 0 (fun _ => true) rfl rfl (by kernel_rfl) (by kernel_rfl) (by kernel_rfl) (by kernel_rfl) ?_ ?_ ?_ ?_ ?_ ?_
  · repeat first | exact wok_nil | refine wok_cons (by first | exact fun _ _ h k => ⟨h.1.trans (k.mono h.1.size), h.2.call k⟩) ?_
  · repeat first | exact vok_nil | refine vok_rig (by first | exact fun _ _ _ h => h) ?_ | refine vok_soft (by first | exact fun _ _ _ h _ => h) ?_
  · exact hF0
  · repeat first | exact all_end (by decide) | refine all_cons (by first | exact rfl | exact ⟨rfl, fun _ _ h => Or.inl h⟩ | exact ⟨rfl, fun _ _ h => Or.inr ⟨h, rfl⟩⟩) ?_
  · refine allp_mild 0 rfl rfl rfl (fun a x W hout hin hP => ?_) ?_
    · have e0 : a.tmps[0]? = some (.slice (some ⟨g, o, none⟩) len c) := (hout 0 (by kernel_rfl)).trans rfl
      exact does_move rfl e0 ⟨Same.refl _, rfl⟩
    refine allp_mild 0 rfl rfl rfl (fun a x W hout hin hP => ?_) ?_
    · have e3 := hin.is 0 3 (by kernel_rfl) (by decide) (by kernel_rfl) (by kernel_rfl) _ rfl
      have C := short_any g o len c t q W hP.2 H0.out.1 H0.out.2
      clear hP
      clear hin hout
      intro K Q hK
      go_simp
      refine C.mono ?_
      rintro e W' ⟨rfl, hb⟩
      exact hK _ _ ⟨hb, rfl⟩
    refine allp_mild 0 rfl rfl rfl (fun a x W hout hin hP => ?_) ?_
    · have e4 := hin.is 1 4 (by kernel_rfl) (by decide) (by kernel_rfl) (by kernel_rfl) _ rfl
      clear hin hout
      intro K Q hK
      go_simp
      exact hK _ _ ⟨Same.refl _, rfl⟩
    refine allp_mild 0 rfl rfl rfl (fun a x W hout hin hP => ?_) ?_
    · have e0 : a.tmps[0]? = some (.slice (some ⟨g, o, none⟩) len c) := (hout 0 (by kernel_rfl)).trans rfl
      exact does_move rfl e0 ⟨Same.refl _, rfl⟩
    refine allp_mild 0 rfl rfl rfl (fun a x W hout hin hP => ?_) ?_
    · have e6 := hin.is 3 6 (by kernel_rfl) (by decide) (by kernel_rfl) (by kernel_rfl) _ rfl
      clear hin hout
      intro K Q hK
      go_simp
      exact hK _ _ ⟨Same.refl _, rfl⟩
    refine allp_mild 0 rfl rfl rfl (fun a x W hout hin hP => ?_) ?_
    · have e7 := hin.is 4 7 (by kernel_rfl) (by decide) (by kernel_rfl) (by kernel_rfl) _ rfl
      have C := short_any g (o + 2) (len - 2) (c - 2) t q W hP.2 H2.out.1 H2.out.2
      clear hP
      clear hin hout
      intro K Q hK
      go_simp
      refine C.mono ?_
      rintro e W' ⟨rfl, hb⟩
      exact hK _ _ ⟨hb, rfl⟩
    refine allp_mild 0 rfl rfl rfl (fun a x W hout hin hP => ?_) ?_
    · have e8 := hin.is 5 8 (by kernel_rfl) (by decide) (by kernel_rfl) (by kernel_rfl) _ rfl
      clear hin hout
      intro K Q hK
      go_simp
      exact hK _ _ ⟨Same.refl _, rfl⟩
    refine allp_mild 0 rfl rfl rfl (fun a x W hout hin hP => ?_) ?_
    · have e9 := hin.is 6 9 (by kernel_rfl) (by decide) (by kernel_rfl) (by kernel_rfl) _ rfl
      clear hin hout
      intro K Q hK
      go_simp
      exact hK _ _ ⟨Same.refl _, rfl⟩
    refine allp_mild 0 rfl rfl rfl (fun a x W hout hin hP => ?_) ?_
    · have e5 := hin.is 2 5 (by kernel_rfl) (by decide) (by kernel_rfl) (by kernel_rfl) _ rfl
      have e10 := hin.is 7 10 (by kernel_rfl) (by decide) (by kernel_rfl) (by kernel_rfl) _ rfl
      clear hin hout
      intro K Q hK
      go_simp
      exact hK _ _ ⟨Same.refl _, rfl⟩
    refine allp_mild 0 rfl rfl rfl (fun a x W hout hin hP => ?_) ?_
    · have e11 := hin.is 8 11 (by kernel_rfl) (by decide) (by kernel_rfl) (by kernel_rfl) _ rfl
      exact does_assign rfl e11 ⟨Same.refl _, rfl⟩
    exact all_end (by decide)
  · intro x W hP hV
    have hb := hP.1
    have h10 : x 9 = .int .u32 (wd (lv o q)) := hV 9 (by decide) (.inl (by kernel_rfl))
    clear hP hV
    simp only [putL, Act.put, List.setIfInBounds_toArray, List.set_cons_succ, List.set_cons_zero, h10]
    refine wpAnyH_done (by kernel_rfl) ?_ _
    clear h10
    go_wp2_with fail
    go_ret
    exact ⟨rfl, hb⟩
end Go.Proofs.Ytnmnokipbbibiaa
