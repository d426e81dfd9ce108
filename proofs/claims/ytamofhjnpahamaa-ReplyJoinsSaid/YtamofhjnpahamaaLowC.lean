/- Numbers that slices begin with, as the program's lowfirst reads them. -/
import Derived.Test.YtamofhjnpahamaaLow
import Derived.Deep.AppendLies
set_option maxRecDepth 4000
namespace Go.Proofs.Ytamofhjnpahamaa
open Go Go.RowKit
/- block g holds q from offset a on -/
structure BAt (w : World) (g o : Nat) (q : List (BitVec 8)) : Prop where
  lt : g < w.heap.size
  at_ : ∀ (j : Nat) (x : BitVec 8), q[j]? = some x → w.cell? ⟨g, o + j, none⟩ = some (.int .u8 (bd x))
theorem BAt.below {w w' : World} {g o B : Nat} {q : List (BitVec 8)} (h : BAt w g o q) (hb : Below B w w') (hg : g < B) : BAt w' g o q := ⟨Nat.lt_of_lt_of_le h.lt hb.size, fun j x hx => (hb.cell (p := ⟨g, o + j, none⟩) hg).trans (h.at_ j x hx)⟩
theorem BAt.call {w w' : World} {g o : Nat} {q : List (BitVec 8)} (h : BAt w g o q) (hb : Below w.heap.size w w') : BAt w' g o q := h.below hb h.lt
theorem BAt.get {w : World} {g o : Nat} {q : List (BitVec 8)} (h : BAt w g o q) (j : Nat) (hj : j < q.length) : w.cell? ⟨g, o + j, none⟩ = some (.int .u8 (bd (q.getD j 0#8))) :=
  h.at_ j _ (by rw [List.getD_eq_getElem?_getD, List.getElem?_eq_getElem hj]; rfl)
theorem BAt.drop {w : World} {g o : Nat} {q : List (BitVec 8)} (h : BAt w g o q) (k : Nat) : BAt w g (o + k) (q.drop k) := ⟨h.lt, fun j x hx => by
  rw [List.getElem?_drop] at hx
  rw [Nat.add_assoc]
  exact h.at_ (k + j) x hx⟩
theorem BAt.take {w : World} {g o : Nat} {q : List (BitVec 8)} (h : BAt w g o q) (k : Nat) : BAt w g o (q.take k) := ⟨h.lt, fun j x hx => by
  refine h.at_ j x ?_
  by_cases hj : j < k
  · rw [List.getElem?_take_of_lt hj] at hx; exact hx
  · rw [List.getElem?_eq_none (by rw [List.length_take]; omega)] at hx; cases hx⟩
theorem BAt.slice {w : World} {g o c : Nat} {q : List (BitVec 8)} (h : BAt w g o q) {n : Nat} (hn : q.length = n) (hc : n ≤ c) : Slice w (.slice (some ⟨g, o, none⟩) n c) q :=
  ⟨_, c, by rw [hn], by rw [hn]; exact hc, fun _ => ⟨g, o, rfl, h.lt, h.at_⟩⟩
theorem slice_bat {w : World} {A : Option Addr} {n c : Nat} {q : List (BitVec 8)} (h : Slice w (.slice A n c) q) (hq : 0 < q.length) : ∃ g o, A = some ⟨g, o, none⟩ ∧ BAt w g o q ∧ q.length ≤ c := by
  obtain ⟨A', c', e, h2, h3⟩ := h
  injection e with e1 _ e3
  subst e1 e3
  obtain ⟨g, o, h4, h5, h6⟩ := h3 (by intro e; rw [e] at hq; simp at hq)
  exact ⟨g, o, h4, ⟨h5, h6⟩, h2⟩
theorem Row.bat {w : World} {g : Nat} {t : TypeId} {q : List (BitVec 8)} (h : Row w g t (bs q)) : BAt w g 0 q := ⟨h.lt, fun j x hx => by rw [Nat.zero_add]; exact h.get (by simp [bs, hx])⟩
theorem i64_bd (x : BitVec 8) : IntKind.i64.wrap (bd x) = bd x := i64_id _ (by have := bd_lo x; omega) (by have := bd_hi x; omega)
theorem BAt.range {w : World} {g o : Nat} {q : List (BitVec 8)} (h : BAt w g o q) (k n : Nat) (_ : k + n ≤ q.length) : w.rangeAt g (o + k) (bytesV ((q.drop k).take n)) := fun j v hv => by
  simp only [bytesV, List.getElem?_map, Option.map_eq_some_iff] at hv
  obtain ⟨x, hx, rfl⟩ := hv
  exact ((h.drop k).take n).at_ j x hx
theorem BAt.far {w w' : World} {g o k : Nat} {q : List (BitVec 8)} (h : BAt w g o q) (hg : w.grownBy w' (some k)) (hne : g ≠ k) : BAt w' g o q :=
  ⟨Nat.lt_of_lt_of_le h.lt hg.size, fun j x hx => (hg.cell_far ⟨g, o + j, none⟩ h.lt (by simpa using hne)).trans (h.at_ j x hx)⟩
theorem slice_at {w : World} {g o n c : Nat} {q : List (BitVec 8)} (h : Slice w (.slice (some ⟨g, o, none⟩) n c) q) (hq : 0 < q.length) : BAt w g o q := by
  obtain ⟨g', o', e, hb, _⟩ := slice_bat h hq
  injection e with e
  injection e with e1 e2
  subst e1 e2
  exact hb
attribute [local go_sem] lowb_hd lowb8_hd convb_hd shl8_hd or_hd lw16 lsh16 lwh or_wd shl16_wd
set_option maxHeartbeats 800000 in
theorem short_at (g o len c : Nat) (q : List (BitVec 8)) (w : World) (hR : BAt w g o q) (ha : 2 ≤ q.length) (hl : 2 ≤ len) :
    Calls Try.prog 31 #[.slice (some ⟨g, o, none⟩) len c] w fun e w' => e = .returned (.int .u16 (hd (sv 0 q))) ∧ Below w.heap.size w w' := by
  have hl0 : (0 : Int) < (len : Int) := by omega
  have hl1 : (1 : Int) < (len : Int) := by omega
  have hn0 : 0 < len := by omega
  have hn1 : 1 < len := by omega
  have H0 : Hid (0 < q.length) := Lib.hid (by omega)
  have H1 : Hid (1 < q.length) := Lib.hid (by omega)
  clear ha hl
  have hF0 : Wl [fun W => Below w.heap.size w W ∧ BAt W g o q] 0 w.drew := ⟨(Below.refl _ _).drew, hR.call (Below.refl _ _).drew⟩
  clear hR
  go_enter Try.func31, Try.ntmps31
  go_upto_region 1 with fail
  refine wp_region_phs [is (.slice (some ⟨g, o, none⟩) len c), is (.pointer (some ⟨g, o, none⟩)), is (.int .u8 (bd (q.getD 0 0#8))), is (.int .u16 (hd ((q.getD 0 0#8).setWidth 16))), is (.slice (some ⟨g, o, none⟩) len c), is (.pointer (some ⟨g, o + 1, none⟩)), is (.int .u8 (bd (q.getD 1 0#8))), is (.int .u16 (hd ((q.getD 1 0#8).setWidth 16))), is (.int .u16 (hd (((q.getD 1 0#8).setWidth 16) <<< 8))), is (.int .u16 (hd (sv 0 q))), is (.int .u16 (hd (sv 0 q)))] [true, true, true, true, true, true, true, true, true, true, true] [(fun W => Below w.heap.size w W ∧ BAt W g o q)] [false, false, false, false, false, false, false, false, false, false, false] [some 0, some 0, some 0, some 0, some 0, some 0, some 0, some 0, some 0, some 0, some 0] [some 3, some 4, some 5, some 6, some 7, some 8, some 9, some 10, some 11, some 12, some 2] 11 0 (fun _ => true) rfl rfl (by kernel_rfl) (by kernel_rfl) (by kernel_rfl) (by kernel_rfl) ?_ ?_ ?_ ?_ ?_ ?_
  · repeat first | exact wok_nil | refine wok_cons (by first | exact fun _ _ h k => ⟨h.1.trans (k.mono h.1.size), h.2.call k⟩) ?_
  · repeat first | exact vok_nil | refine vok_rig (by first | exact fun _ _ _ h => h) ?_ | refine vok_soft (by first | exact fun _ _ _ h _ => h) ?_
  · exact hF0
  · repeat first | exact all_end (by decide) | refine all_cons (by first | exact rfl | exact ⟨rfl, fun _ _ h => Or.inl h⟩ | exact ⟨rfl, fun _ _ h => Or.inr ⟨h, rfl⟩⟩) ?_
  · refine allp_mild 0 rfl rfl rfl (fun a x W hout hin hP => ?_) ?_
    · have e0 : a.tmps[0]? = some (.slice (some ⟨g, o, none⟩) len c) := (hout 0 (by kernel_rfl)).trans rfl
      exact does_move rfl e0 ⟨Same.refl _, rfl⟩
    refine allp_mild 0 rfl rfl rfl (fun a x W hout hin hP => ?_) ?_
    · have e3 := hin.is 0 3 (by kernel_rfl) (by decide) (by kernel_rfl) (by kernel_rfl) _ rfl
      clear hin hout
      intro K Q hK
      go_simp
      exact hK _ _ ⟨Same.refl _, rfl⟩
    refine allp_mild 0 rfl rfl rfl (fun a x W hout hin hP => ?_) ?_
    · have e4 := hin.is 1 4 (by kernel_rfl) (by decide) (by kernel_rfl) (by kernel_rfl) _ rfl
      have hc : W.cell? ⟨g, o, none⟩ = some (.int .u8 (bd (q.getD 0 0#8))) := hP.2.get 0 H0.out
      clear hP
      clear hin hout
      intro K Q hK
      go_simp
      exact hK _ _ ⟨Same.refl _, rfl⟩
    refine allp_mild 0 rfl rfl rfl (fun a x W hout hin hP => ?_) ?_
    · have e5 := hin.is 2 5 (by kernel_rfl) (by decide) (by kernel_rfl) (by kernel_rfl) _ rfl
      clear hin hout
      intro K Q hK
      go_simp
      exact hK _ _ ⟨Same.refl _, rfl⟩
    refine allp_mild 0 rfl rfl rfl (fun a x W hout hin hP => ?_) ?_
    · have e0 : a.tmps[0]? = some (.slice (some ⟨g, o, none⟩) len c) := (hout 0 (by kernel_rfl)).trans rfl
      exact does_move rfl e0 ⟨Same.refl _, rfl⟩
    refine allp_mild 0 rfl rfl rfl (fun a x W hout hin hP => ?_) ?_
    · have e7 := hin.is 4 7 (by kernel_rfl) (by decide) (by kernel_rfl) (by kernel_rfl) _ rfl
      clear hin hout
      intro K Q hK
      go_simp
      exact hK _ _ ⟨Same.refl _, rfl⟩
    refine allp_mild 0 rfl rfl rfl (fun a x W hout hin hP => ?_) ?_
    · have e8 := hin.is 5 8 (by kernel_rfl) (by decide) (by kernel_rfl) (by kernel_rfl) _ rfl
      have hc : W.cell? ⟨g, o + 1, none⟩ = some (.int .u8 (bd (q.getD 1 0#8))) := hP.2.get 1 H1.out
      clear hP
      clear hin hout
      intro K Q hK
      go_simp
      exact hK _ _ ⟨Same.refl _, rfl⟩
    refine allp_mild 0 rfl rfl rfl (fun a x W hout hin hP => ?_) ?_
    · have e9 := hin.is 6 9 (by kernel_rfl) (by decide) (by kernel_rfl) (by kernel_rfl) _ rfl
      clear hin hout
      intro K Q hK
      go_simp
      exact hK _ _ ⟨Same.refl _, rfl⟩
    refine allp_mild 0 rfl rfl rfl (fun a x W hout hin hP => ?_) ?_
    · have e10 := hin.is 7 10 (by kernel_rfl) (by decide) (by kernel_rfl) (by kernel_rfl) _ rfl
      clear hin hout
      intro K Q hK
      go_simp
      exact hK _ _ ⟨Same.refl _, rfl⟩
    refine allp_mild 0 rfl rfl rfl (fun a x W hout hin hP => ?_) ?_
    · have e6 := hin.is 3 6 (by kernel_rfl) (by decide) (by kernel_rfl) (by kernel_rfl) _ rfl
      have e11 := hin.is 8 11 (by kernel_rfl) (by decide) (by kernel_rfl) (by kernel_rfl) _ rfl
      clear hin hout
      intro K Q hK
      go_simp
      exact hK _ _ ⟨Same.refl _, rfl⟩
    refine allp_mild 0 rfl rfl rfl (fun a x W hout hin hP => ?_) ?_
    · have e12 := hin.is 9 12 (by kernel_rfl) (by decide) (by kernel_rfl) (by kernel_rfl) _ rfl
      exact does_assign rfl e12 ⟨Same.refl _, rfl⟩
    exact all_end (by decide)
  · intro x W hP hV
    have hb := hP.1
    have h10 : x 10 = .int .u16 (hd (sv 0 q)) := hV 10 (by decide) (.inl (by kernel_rfl))
    clear hP hV
    simp only [putL, Act.put, List.setIfInBounds_toArray, List.set_cons_succ, List.set_cons_zero, h10]
    refine wpAnyH_done (by kernel_rfl) ?_ _
    clear h10
    go_wp2_with fail
    go_ret
    exact ⟨rfl, hb⟩
theorem sv_drop (q : List (BitVec 8)) : sv 0 (q.drop 2) = sv (0 + 2) q := by
  unfold sv
  simp [List.getD_eq_getElem?_getD, List.getElem?_drop]
set_option maxHeartbeats 800000 in
theorem long_at (g o len c : Nat) (q : List (BitVec 8)) (w : World) (hR : BAt w g o q) (ha : 4 ≤ q.length) (hl : 4 ≤ len) (hc : len ≤ c) :
    Calls Try.prog 25 #[.slice (some ⟨g, o, none⟩) len c] w fun e w' => e = .returned (.int .u32 (wd (lv 0 q))) ∧ Below w.heap.size w w' := by
  have hl2 : (2 : Int) ≤ (len : Int) := by omega
  have hc2 : (len : Int) ≤ (c : Int) := by omega
  have hcc : (2 : Int) ≤ (c : Int) := by omega
  have hne : ¬ c = 2 := by omega
  have hn2 : 2 ≤ len := by omega
  have hn3 : 2 ≤ c := by omega
  have HSV := Lib.hid (sv_drop q)
  have H0 : Hid (2 ≤ q.length ∧ 2 ≤ len) := Lib.hid ⟨by omega, by omega⟩
  have H2 : Hid (2 ≤ (q.drop 2).length ∧ 2 ≤ len - 2) := Lib.hid ⟨by rw [List.length_drop]; omega, by omega⟩
  clear ha hl hc
  have hF0 : Wl [fun W => Below w.heap.size w W ∧ BAt W g o q] 0 w.drew := ⟨(Below.refl _ _).drew, hR.call (Below.refl _ _).drew⟩
  clear hR
  go_enter Try.func25, Try.ntmps25
  go_upto_region 1 with fail
  refine wp_region_phs [is (.slice (some ⟨g, o, none⟩) len c), is (.int .u16 (hd (sv 0 q))), is (.int .u32 (wd ((sv 0 q).setWidth 32))), is (.slice (some ⟨g, o, none⟩) len c), is (.slice (some ⟨g, o + 2, none⟩) (len - 2) (c - 2)), is (.int .u16 (hd (sv (0 + 2) q))), is (.int .u32 (wd ((sv (0 + 2) q).setWidth 32))), is (.int .u32 (wd (((sv (0 + 2) q).setWidth 32) <<< 16))), is (.int .u32 (wd (lv 0 q))), is (.int .u32 (wd (lv 0 q)))] [true, true, true, true, true, true, true, true, true, true] [(fun W => Below w.heap.size w W ∧ BAt W g o q)] [false, false, false, false, false, false, false, false, false, false] [some 0, some 0, some 0, some 0, some 0, some 0, some 0, some 0, some 0, some 0] [some 3, some 4, some 5, some 6, some 7, some 8, some 9, some 10, some 11, some 2] 10 0 (fun _ => true) rfl rfl (by kernel_rfl) (by kernel_rfl) (by kernel_rfl) (by kernel_rfl) ?_ ?_ ?_ ?_ ?_ ?_
  · repeat first | exact wok_nil | refine wok_cons (by first | exact fun _ _ h k => ⟨h.1.trans (k.mono h.1.size), h.2.call k⟩) ?_
  · repeat first | exact vok_nil | refine vok_rig (by first | exact fun _ _ _ h => h) ?_ | refine vok_soft (by first | exact fun _ _ _ h _ => h) ?_
  · exact hF0
  · repeat first | exact all_end (by decide) | refine all_cons (by first | exact rfl | exact ⟨rfl, fun _ _ h => Or.inl h⟩ | exact ⟨rfl, fun _ _ h => Or.inr ⟨h, rfl⟩⟩) ?_
  · refine allp_mild 0 rfl rfl rfl (fun a x W hout hin hP => ?_) ?_
    · have e0 : a.tmps[0]? = some (.slice (some ⟨g, o, none⟩) len c) := (hout 0 (by kernel_rfl)).trans rfl
      exact does_move rfl e0 ⟨Same.refl _, rfl⟩
    refine allp_mild 0 rfl rfl rfl (fun a x W hout hin hP => ?_) ?_
    · have e3 := hin.is 0 3 (by kernel_rfl) (by decide) (by kernel_rfl) (by kernel_rfl) _ rfl
      have C := short_at g o len c q W hP.2 H0.out.1 H0.out.2
      clear hP
      clear hin hout
      intro K Q hK
      go_simp
      refine C.mono ?_
      rintro e W' ⟨rfl, hb⟩
      exact hK _ _ ⟨hb, rfl⟩
    refine allp_mild 0 rfl rfl rfl (fun a x W hout hin hP => ?_) ?_
    · have e4 := hin.is 1 4 (by kernel_rfl) (by decide) (by kernel_rfl) (by kernel_rfl) _ rfl
      clear hin hout
      intro K Q hK
      go_simp
      exact hK _ _ ⟨Same.refl _, rfl⟩
    refine allp_mild 0 rfl rfl rfl (fun a x W hout hin hP => ?_) ?_
    · have e0 : a.tmps[0]? = some (.slice (some ⟨g, o, none⟩) len c) := (hout 0 (by kernel_rfl)).trans rfl
      exact does_move rfl e0 ⟨Same.refl _, rfl⟩
    refine allp_mild 0 rfl rfl rfl (fun a x W hout hin hP => ?_) ?_
    · have e6 := hin.is 3 6 (by kernel_rfl) (by decide) (by kernel_rfl) (by kernel_rfl) _ rfl
      clear hin hout
      intro K Q hK
      go_simp
      exact hK _ _ ⟨Same.refl _, rfl⟩
    refine allp_mild 0 rfl rfl rfl (fun a x W hout hin hP => ?_) ?_
    · have e7 := hin.is 4 7 (by kernel_rfl) (by decide) (by kernel_rfl) (by kernel_rfl) _ rfl
      have C := short_at g (o + 2) (len - 2) (c - 2) (q.drop 2) W (hP.2.drop 2) H2.out.1 H2.out.2
      rw [HSV.out] at C
      clear hP
      clear hin hout
      intro K Q hK
      go_simp
      refine C.mono ?_
      rintro e W' ⟨rfl, hb⟩
      exact hK _ _ ⟨hb, rfl⟩
    refine allp_mild 0 rfl rfl rfl (fun a x W hout hin hP => ?_) ?_
    · have e8 := hin.is 5 8 (by kernel_rfl) (by decide) (by kernel_rfl) (by kernel_rfl) _ rfl
      clear hin hout
      intro K Q hK
      go_simp
      exact hK _ _ ⟨Same.refl _, rfl⟩
    refine allp_mild 0 rfl rfl rfl (fun a x W hout hin hP => ?_) ?_
    · have e9 := hin.is 6 9 (by kernel_rfl) (by decide) (by kernel_rfl) (by kernel_rfl) _ rfl
      clear hin hout
      intro K Q hK
      go_simp
      exact hK _ _ ⟨Same.refl _, rfl⟩
    refine allp_mild 0 rfl rfl rfl (fun a x W hout hin hP => ?_) ?_
    · have e5 := hin.is 2 5 (by kernel_rfl) (by decide) (by kernel_rfl) (by kernel_rfl) _ rfl
      have e10 := hin.is 7 10 (by kernel_rfl) (by decide) (by kernel_rfl) (by kernel_rfl) _ rfl
      clear hin hout
      intro K Q hK
      go_simp
      exact hK _ _ ⟨Same.refl _, rfl⟩
    refine allp_mild 0 rfl rfl rfl (fun a x W hout hin hP => ?_) ?_
    · have e11 := hin.is 8 11 (by kernel_rfl) (by decide) (by kernel_rfl) (by kernel_rfl) _ rfl
      exact does_assign rfl e11 ⟨Same.refl _, rfl⟩
    exact all_end (by decide)
  · intro x W hP hV
    have hb := hP.1
    have h10 : x 9 = .int .u32 (wd (lv 0 q)) := hV 9 (by decide) (.inl (by kernel_rfl))
    clear hP hV
    simp only [putL, Act.put, List.setIfInBounds_toArray, List.set_cons_succ, List.set_cons_zero, h10]
    refine wpAnyH_done (by kernel_rfl) ?_ _
    clear h10
    go_wp2_with fail
    go_ret
    exact ⟨rfl, hb⟩
end Go.Proofs.Ytamofhjnpahamaa
