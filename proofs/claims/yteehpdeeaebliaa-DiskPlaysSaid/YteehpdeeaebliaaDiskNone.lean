/- The statement DiskNone: its walk. -/
import Derived.Test.YteehpdeeaebliaaDiskFair
import Derived.Test.YteehpdeeaebliaaDiskWakes
namespace Go.Proofs.Yteehpdeeaebliaa
open Go Go.RowKit
theorem step_vals {w : World} {cs : List Value} {x : StepD} (h : rdStep w cs x) : ∃ u, cs = [.int .i64 x.kind, .int .i64 x.i, .int .u8 (bd x.v), u] ∧ Item w u x.keep ∧ (-9223372036854775808 ≤ x.i ∧ x.i < 9223372036854775808) := by
  obtain ⟨⟨k, i, v, kp, _⟩, h, rfl⟩ := h
  obtain ⟨c0, d0, rfl, _, ⟨rfl, hk⟩, c1, d1, rfl, _, ⟨rfl, hi⟩, c2, d2, rfl, _, h2, c3, d3, rfl, hl, h3, h4⟩ := h
  have h2 : c2 = [.int .u8 (bd v)] := h2
  have h4 : d3 = [] := h4
  subst h2 h4
  obtain ⟨u, rfl⟩ : ∃ u, c3 = [u] := List.length_eq_one_iff.1 hl
  exact ⟨u, rfl, rdSl_item h3, bounds_i64' hi⟩
theorem steps_one {w : World} {b : Nat} {x : StepD} {u : Value} (hb : b < w.heap.size) (hr : w.rangeAt b 0 [.int .i64 x.kind, .int .i64 x.i, .int .u8 (bd x.v), u]) (h : rdStep w [.int .i64 x.kind, .int .i64 x.i, .int .u8 (bd x.v), u] x) : rdSl 4 rdStep w [.slice (some ⟨b, 0, none⟩) 1 1] [x] :=
  ⟨some ⟨b, 0, none⟩, 1, rfl, Nat.le_refl _, (fun h => by cases h), (by show 1 ≤ maxLen; decide), fun _ => ⟨b, 0, rfl, hb, fun k y hy => by
    cases k with
    | zero => obtain rfl : x = y := by simpa using hy
              exact ⟨_, rfl, by simpa using hr, h⟩
    | succ k => simp at hy⟩⟩
structure NoneAt (w W : World) (g g2 : Nat) (x : StepD) : Prop where
  lt : g < W.heap.size
  i : W.cell? ⟨g, 1, none⟩ = some (.int .i64 x.i)
  v : W.cell? ⟨g, 2, none⟩ = some (.int .u8 (bd x.v))
  row : Row W g2 37 (bs (blk 0#8))
  wi : -9223372036854775808 ≤ x.i ∧ x.i < 9223372036854775808
  below : Below w.heap.size w W
theorem noneAt_stays {w W W' : World} {g g2 : Nat} {x : StepD} (h : NoneAt w W g g2 x) (k : Same W W') : NoneAt w W' g g2 x :=
  ⟨Nat.lt_of_lt_of_le h.lt k.size, (k.cell (p := ⟨g, 1, none⟩) h.lt).trans h.i, (k.cell (p := ⟨g, 2, none⟩) h.lt).trans h.v, h.row.call k, h.wi, h.below.trans (k.mono h.below.size)⟩
set_option maxRecDepth 20000 in
set_option maxHeartbeats 1600000 in
theorem none_walk (D : DiskOps) (x : StepD) (u : Value) (w : World) (h : rdStep w [.int .i64 x.kind, .int .i64 x.i, .int .u8 (bd x.v), u] x) :
    Calls Try.prog 6 #[.agg #[.int .i64 x.kind, .int .i64 x.i, .int .u8 (bd x.v), u]] w fun e w' => e = .returned (.bool true) ∧ Below w.heap.size w w' := by
  have H := Lib.hid h
  clear h
  go_enter Try.func6, Try.ntmps6
  go_wp2_with fail
  have hb2 : Below w.heap.size w ((w.alloc (.cells #[.int .i64 x.kind, .int .i64 x.i, .int .u8 (bd x.v), u] 34)).alloc (.cells #[.int .i64 x.kind, .int .i64 x.i, .int .u8 (bd x.v), u] 34)) := ((Below.refl w.heap.size w).alloc (Nat.le_refl _) _).alloc (by simp) _
  have HR1 := Lib.hid ((Row.fresh w 34 #[.int .i64 x.kind, .int .i64 x.i, .int .u8 (bd x.v), u]).call (Same.alloc _ (.cells #[.int .i64 x.kind, .int .i64 x.i, .int .u8 (bd x.v), u] 34)))
  have HR2 : Hid (Row ((w.alloc (.cells #[.int .i64 x.kind, .int .i64 x.i, .int .u8 (bd x.v), u] 34)).alloc (.cells #[.int .i64 x.kind, .int .i64 x.i, .int .u8 (bd x.v), u] 34)) (w.heap.size + 1) 34 #[.int .i64 x.kind, .int .i64 x.i, .int .u8 (bd x.v), u]) := Lib.hid (by have := Row.fresh (w.alloc (.cells #[.int .i64 x.kind, .int .i64 x.i, .int .u8 (bd x.v), u] 34)) 34 #[.int .i64 x.kind, .int .i64 x.i, .int .u8 (bd x.v), u]; simpa using this)
  have HS := Lib.hid (stays_step w.heap.size w _ _ _ H.out hb2 (Nat.le_refl _))
  obtain ⟨W2, hW2⟩ : ∃ W2, (w.alloc (.cells #[.int .i64 x.kind, .int .i64 x.i, .int .u8 (bd x.v), u] 34)).alloc (.cells #[.int .i64 x.kind, .int .i64 x.i, .int .u8 (bd x.v), u] 34) = W2 := ⟨_, rfl⟩
  rw [hW2] at hb2 HR1 HR2 HS ⊢
  clear hW2
  have HL := Lib.hid (steps_one (HR2.out.lt) (fun j v hv => by rw [Nat.zero_add, HR2.out.cell]; simpa using hv) HS.out)
  refine (fairD_any W2 (some ⟨w.heap.size + 1, 0, none⟩) 1 1 [x] HL.out).mono ?_
  rintro e w3 ⟨b, rfl, hb, rfl⟩
  cases b with
  | false =>
    clear hb
    go_wp2_with fail
    refine (dwakes_any D W2).mono ?_
    rintro e w3 ⟨rfl, hb3⟩
    go_wp2_with fail
    go_ret
    exact ⟨rfl, hb2.trans (hb3.mono hb2.size)⟩
  | true =>
    have hk := (hb rfl).2 x (by simp)
    have HK := Lib.hid hk
    obtain ⟨u', hu', hI, hwi⟩ := step_vals HS.out
    obtain rfl : u = u' := by simpa using hu'
    have HI := Lib.hid hI
    have HW := Lib.hid hwi
    obtain ⟨g, hg⟩ : ∃ g, w.heap.size = g := ⟨_, rfl⟩
    have HG := Lib.hid hg
    have HB := Lib.hid hb2
    rw [hg] at HR1 ⊢
    clear hb hu' hI hg HL HR2 hk hwi hb2 H
    have c1 : W2.cell? ⟨g, 1, none⟩ = some (.int .i64 x.i) := HR1.out.get (i := 1) rfl
    go_wp2_with fail
    refine (D.fuseNil W2 x.i HW.out).mono ?_
    rintro e w3 ⟨rfl, hb3⟩
    have HR3 := Lib.hid (HR1.out.call hb3)
    have HI3 := Lib.hid (HI.out.below hb3 (Nat.le_refl _))
    have HB3 := Lib.hid (HB.out.trans (hb3.mono HB.out.size))
    clear c1 hb3 HR1 HI HB
    have c3 : w3.cell? ⟨g, 3, none⟩ = some u := HR3.out.get (i := 3) rfl
    go_wp2_with fail
    refine (D.upNil w3 u x.keep HI3.out.slice (by have := HK.out; unfold few; omega)).mono ?_
    rintro e w4 ⟨rfl, hb4⟩
    have HR4 := Lib.hid (HR3.out.call hb4)
    have HB4 := Lib.hid (HB3.out.trans (hb4.mono HB3.out.size))
    clear c3 hb4 HR3 HI3 HB3
    have c4 : w4.cell? ⟨g, 1, none⟩ = some (.int .i64 x.i) := HR4.out.get (i := 1) rfl
    go_wp2_with fail
    refine (D.readNil w4 x.i HW.out).mono ?_
    rintro e w5 ⟨rfl, hb5⟩
    have HR5 := Lib.hid (HR4.out.call hb5)
    have HB5 := Lib.hid (HB4.out.trans (hb5.mono HB4.out.size))
    clear c4 hb5 HR4 HB4
    have hz := zeros_blk
    go_wp2_with (first | (refine wpList_store_row rfl 37 _ _ rfl w5.heap.size (bs (blk 0#8)) rfl rfl 37 _ (Row.fresh _ _ _) (by rw [size_bs, length_blk]; exact size_blk) (by simp only [size_bs, length_blk]; try rfl) (one_bs _) ?_; rw [World.setRow_alloc_new]))
    obtain ⟨g2, hg2⟩ : ∃ g2, w5.heap.size = g2 := ⟨_, rfl⟩
    have HX := Lib.hid (Row.fresh w5 37 (bs (blk 0#8)))
    have HR6 := Lib.hid (HR5.out.call (Same.alloc w5 (.cells (bs (blk 0#8)) 37)))
    have HB6 := Lib.hid (HB5.out.trans ((Same.alloc w5 (.cells (bs (blk 0#8)) 37)).mono HB5.out.size))
    rw [hg2] at HX ⊢
    obtain ⟨W6, hW6⟩ : ∃ W6, w5.alloc (.cells (bs (blk 0#8)) 37) = W6 := ⟨_, rfl⟩
    rw [hW6] at HX HR6 HB6 ⊢
    clear hW6 hg2 HR5 HB5 hz
    have HP0 := Lib.hid (NoneAt.mk HR6.out.lt (HR6.out.get (i := 1) rfl) (HR6.out.get (i := 2) rfl) HX.out HW.out HB6.out)
    have hF0 : Wl [fun W => NoneAt w W g g2 x] 0 W6.drew := noneAt_stays HP0.out (Below.refl _ _).drew
    refine wp_region_phs [is (.agg (bs (blk 0#8))), is (.agg (bs (blk 0#8))), is (.bool true), is (.bool true), is (.int .i64 1), is (.bool true), is (.bool true), is (.bool true), is (.pointer none), is (.pointer (some ⟨g, 1, none⟩)), is (.int .i64 x.i), is (.pointer (some ⟨g, 2, none⟩)), is (.int .u8 (bd x.v)), is (.agg (bs (blk x.v))), is (.int .i64 1), is (.bool true), is (.bool true), is (.bool true), is (.pointer none), is (.int .i64 1), is (.bool true), is (.bool true), is (.bool true), is (.pointer none), is (.int .i64 0), is (.bool true), is (.bool true), is (.bool true), is (.pointer none), is (.int .i64 0), is (.bool true), is (.bool true), is (.bool true), is (.pointer none), is (.bool false), is (.bool true), is (.bool true), is (.bool true), is (.bool true), is (.bool true), is (.bool true)] [true, true, true, true, true, true, true, true, true, true, true, true, true, true, true, true, true, true, true, true, true, true, true, true, true, true, true, true, true, true, true, true, true, true, true, true, true, true, true, true, true] [(fun W => NoneAt w W g g2 x)] [false, false, false, false, false, false, false, false, false, false, false, false, false, false, false, false, false, false, false, false, false, false, false, false, false, false, false, false, false, false, false, false, false, false, false, false, false, false, false, false, false] [some 0, some 0, some 0, some 0, some 0, some 0, some 0, some 0, some 0, some 0, some 0, some 0, some 0, some 0, some 0, some 0, some 0, some 0, some 0, some 0, some 0, some 0, some 0, some 0, some 0, some 0, some 0, some 0, some 0, some 0, some 0, some 0, some 0, some 0, some 0, some 0, some 0, some 0, some 0, some 0, some 0] [some 26, some 27, some 28, some 29, some 30, some 31, some 32, some 33, some 34, some 35, some 36, some 37, some 38, some 39, some 40, some 41, some 42, some 43, some 44, some 45, some 46, some 47, some 48, some 49, some 50, some 51, some 52, some 53, some 54, some 55, some 56, some 57, some 58, some 59, some 60, some 61, some 62, some 63, some 64, some 65, some 2] 41 0 (fun _ => true) rfl rfl (by kernel_rfl) (by kernel_rfl) (by kernel_rfl) (by kernel_rfl) ?_ ?_ ?_ ?_ ?_ ?_
    · repeat first | exact wok_nil | refine wok_cons (by first | exact fun _ _ h k => noneAt_stays h k) ?_
    · repeat first | exact vok_nil | refine vok_rig (by first | exact fun _ _ _ h => h) ?_ | refine vok_soft (by first | exact fun _ _ _ h _ => h) ?_
    · exact hF0
    · repeat first | exact all_end (by decide) | refine all_cons (by first | exact rfl | exact ⟨rfl, fun _ _ h => h⟩) ?_
    · refine allp_mild 0 rfl rfl rfl (fun a x_ W hout hin hP => ?_) ?_
      · have e4 : a.tmps[4]? = some (.pointer (some ⟨g2, 0, none⟩)) := (hout 4 (by kernel_rfl)).trans rfl
        have hc := hP.row
        clear hP
        clear hin hout
        intro K0 Q hK
        have rr := row_range hc (Below.refl W.heap.size W) hc.lt
        refine wp_load_mid 37 (.tmp 4) rfl g2 0 (eval_of_get e4) (bs (blk 0#8)).toList _ rr Try.underlying37 rfl (by rw [len_bs]; exact size_blk) ?_
        exact hK _ _ ⟨Same.refl _, rfl⟩
      refine allp_mild 0 rfl rfl rfl (fun a x_ W hout hin hP => ?_) ?_
      · clear hin hout
        have hz := zeros_blk
        intro K0 Q hK
        go_simp
        exact hK _ _ ⟨Same.refl _, rfl⟩
      refine allp_mild 0 rfl rfl rfl (fun a x_ W hout hin hP => ?_) ?_
      · have e26 := hin.is 0 26 (by kernel_rfl) (by decide) (by kernel_rfl) (by kernel_rfl) _ rfl
        have e27 := hin.is 1 27 (by kernel_rfl) (by decide) (by kernel_rfl) (by kernel_rfl) _ rfl
        clear hin hout
        have q := eql_blk (blk 0#8) (blk 0#8) (length_blk _) (length_blk _) W
        rw [decide_eq_true rfl] at q
        intro K0 Q hK
        go_simp
        exact hK _ _ ⟨Same.refl _, rfl⟩
      refine allp_mild 0 rfl rfl rfl (fun a x_ W hout hin hP => ?_) ?_
      · have e28 := hin.is 2 28 (by kernel_rfl) (by decide) (by kernel_rfl) (by kernel_rfl) _ rfl
        exact does_move rfl e28 ⟨Same.refl _, rfl⟩
      refine allp_mild 0 rfl rfl rfl (fun a x_ W hout hin hP => ?_) ?_
      · have e5 : a.tmps[5]? = some (.int .i64 1) := (hout 5 (by kernel_rfl)).trans rfl
        exact does_move rfl e5 ⟨Same.refl _, rfl⟩
      refine allp_mild 0 rfl rfl rfl (fun a x_ W hout hin hP => ?_) ?_
      · have e30 := hin.is 4 30 (by kernel_rfl) (by decide) (by kernel_rfl) (by kernel_rfl) _ rfl
        clear hin hout
        intro K Q hK
        go_simp
        exact hK _ _ ⟨Same.refl _, rfl⟩
      refine allp_mild 0 rfl rfl rfl (fun a x_ W hout hin hP => ?_) ?_
      · have e29 := hin.is 3 29 (by kernel_rfl) (by decide) (by kernel_rfl) (by kernel_rfl) _ rfl
        have e31 := hin.is 5 31 (by kernel_rfl) (by decide) (by kernel_rfl) (by kernel_rfl) _ rfl
        exact does_pick rfl e29 ⟨Same.refl _, eval_of_get e31⟩
      refine allp_mild 0 rfl rfl rfl (fun a x_ W hout hin hP => ?_) ?_
      · have e32 := hin.is 6 32 (by kernel_rfl) (by decide) (by kernel_rfl) (by kernel_rfl) _ rfl
        exact does_move rfl e32 ⟨Same.refl _, rfl⟩
      refine allp_mild 0 rfl rfl rfl (fun a x_ W hout hin hP => ?_) ?_
      · have e3 : a.tmps[3]? = some (.pointer none) := (hout 3 (by kernel_rfl)).trans rfl
        exact does_move rfl e3 ⟨Same.refl _, rfl⟩
      refine allp_mild 0 rfl rfl rfl (fun a x_ W hout hin hP => ?_) ?_
      · have e1 : a.tmps[1]? = some (.pointer (some ⟨g, 0, none⟩)) := (hout 1 (by kernel_rfl)).trans rfl
        clear hin hout
        intro K Q hK
        go_simp
        exact hK _ _ ⟨Same.refl _, rfl⟩
      refine allp_mild 0 rfl rfl rfl (fun a x_ W hout hin hP => ?_) ?_
      · have e35 := hin.is 9 35 (by kernel_rfl) (by decide) (by kernel_rfl) (by kernel_rfl) _ rfl
        have hc := hP.i
        clear hP
        clear hin hout
        intro K0 Q hK
        go_simp
        exact hK _ _ ⟨Same.refl _, rfl⟩
      refine allp_mild 0 rfl rfl rfl (fun a x_ W hout hin hP => ?_) ?_
      · have e1 : a.tmps[1]? = some (.pointer (some ⟨g, 0, none⟩)) := (hout 1 (by kernel_rfl)).trans rfl
        clear hin hout
        intro K Q hK
        go_simp
        exact hK _ _ ⟨Same.refl _, rfl⟩
      refine allp_mild 0 rfl rfl rfl (fun a x_ W hout hin hP => ?_) ?_
      · have e37 := hin.is 11 37 (by kernel_rfl) (by decide) (by kernel_rfl) (by kernel_rfl) _ rfl
        have hc := hP.v
        clear hP
        clear hin hout
        intro K0 Q hK
        go_simp
        exact hK _ _ ⟨Same.refl _, rfl⟩
      refine allp_mild 0 rfl rfl rfl (fun a x_ W hout hin hP => ?_) ?_
      · have e38 := hin.is 12 38 (by kernel_rfl) (by decide) (by kernel_rfl) (by kernel_rfl) _ rfl
        have h0 := hP
        clear hP
        clear hin hout
        intro K0 Q hK
        go_simp
        refine (fill_any x.v W).mono ?_
        rintro e W' ⟨rfl, hb⟩
        exact hK _ _ ⟨hb, rfl⟩
      refine allp_mild 0 rfl rfl rfl (fun a x_ W hout hin hP => ?_) ?_
      · have e34 := hin.is 8 34 (by kernel_rfl) (by decide) (by kernel_rfl) (by kernel_rfl) _ rfl
        have e36 := hin.is 10 36 (by kernel_rfl) (by decide) (by kernel_rfl) (by kernel_rfl) _ rfl
        have e39 := hin.is 13 39 (by kernel_rfl) (by decide) (by kernel_rfl) (by kernel_rfl) _ rfl
        have h0 := hP
        clear hP
        clear hin hout
        intro K0 Q hK
        go_simp
        refine (D.writeNil W x.i (blk x.v) (length_blk _) h0.wi).mono ?_
        rintro e W' ⟨rfl, hb⟩
        exact hK _ _ ⟨hb, rfl⟩
      refine allp_mild 0 rfl rfl rfl (fun a x_ W hout hin hP => ?_) ?_
      · have e40 := hin.is 14 40 (by kernel_rfl) (by decide) (by kernel_rfl) (by kernel_rfl) _ rfl
        clear hin hout
        intro K Q hK
        go_simp
        exact hK _ _ ⟨Same.refl _, rfl⟩
      refine allp_mild 0 rfl rfl rfl (fun a x_ W hout hin hP => ?_) ?_
      · have e33 := hin.is 7 33 (by kernel_rfl) (by decide) (by kernel_rfl) (by kernel_rfl) _ rfl
        have e41 := hin.is 15 41 (by kernel_rfl) (by decide) (by kernel_rfl) (by kernel_rfl) _ rfl
        exact does_pick rfl e33 ⟨Same.refl _, eval_of_get e41⟩
      refine allp_mild 0 rfl rfl rfl (fun a x_ W hout hin hP => ?_) ?_
      · have e42 := hin.is 16 42 (by kernel_rfl) (by decide) (by kernel_rfl) (by kernel_rfl) _ rfl
        exact does_move rfl e42 ⟨Same.refl _, rfl⟩
      refine allp_mild 0 rfl rfl rfl (fun a x_ W hout hin hP => ?_) ?_
      · have e3 : a.tmps[3]? = some (.pointer none) := (hout 3 (by kernel_rfl)).trans rfl
        exact does_move rfl e3 ⟨Same.refl _, rfl⟩
      refine allp_mild 0 rfl rfl rfl (fun a x_ W hout hin hP => ?_) ?_
      · have e44 := hin.is 18 44 (by kernel_rfl) (by decide) (by kernel_rfl) (by kernel_rfl) _ rfl
        have h0 := hP
        clear hP
        clear hin hout
        intro K0 Q hK
        go_simp
        refine (D.flushNil W).mono ?_
        rintro e W' ⟨rfl, hb⟩
        exact hK _ _ ⟨hb, rfl⟩
      refine allp_mild 0 rfl rfl rfl (fun a x_ W hout hin hP => ?_) ?_
      · have e45 := hin.is 19 45 (by kernel_rfl) (by decide) (by kernel_rfl) (by kernel_rfl) _ rfl
        clear hin hout
        intro K Q hK
        go_simp
        exact hK _ _ ⟨Same.refl _, rfl⟩
      refine allp_mild 0 rfl rfl rfl (fun a x_ W hout hin hP => ?_) ?_
      · have e43 := hin.is 17 43 (by kernel_rfl) (by decide) (by kernel_rfl) (by kernel_rfl) _ rfl
        have e46 := hin.is 20 46 (by kernel_rfl) (by decide) (by kernel_rfl) (by kernel_rfl) _ rfl
        exact does_pick rfl e43 ⟨Same.refl _, eval_of_get e46⟩
      refine allp_mild 0 rfl rfl rfl (fun a x_ W hout hin hP => ?_) ?_
      · have e47 := hin.is 21 47 (by kernel_rfl) (by decide) (by kernel_rfl) (by kernel_rfl) _ rfl
        exact does_move rfl e47 ⟨Same.refl _, rfl⟩
      refine allp_mild 0 rfl rfl rfl (fun a x_ W hout hin hP => ?_) ?_
      · have e3 : a.tmps[3]? = some (.pointer none) := (hout 3 (by kernel_rfl)).trans rfl
        exact does_move rfl e3 ⟨Same.refl _, rfl⟩
      refine allp_mild 0 rfl rfl rfl (fun a x_ W hout hin hP => ?_) ?_
      · have e49 := hin.is 23 49 (by kernel_rfl) (by decide) (by kernel_rfl) (by kernel_rfl) _ rfl
        have h0 := hP
        clear hP
        clear hin hout
        intro K0 Q hK
        go_simp
        refine (D.looseNil W).mono ?_
        rintro e W' ⟨rfl, hb⟩
        exact hK _ _ ⟨hb, rfl⟩
      refine allp_mild 0 rfl rfl rfl (fun a x_ W hout hin hP => ?_) ?_
      · have e50 := hin.is 24 50 (by kernel_rfl) (by decide) (by kernel_rfl) (by kernel_rfl) _ rfl
        clear hin hout
        intro K Q hK
        go_simp
        exact hK _ _ ⟨Same.refl _, rfl⟩
      refine allp_mild 0 rfl rfl rfl (fun a x_ W hout hin hP => ?_) ?_
      · have e48 := hin.is 22 48 (by kernel_rfl) (by decide) (by kernel_rfl) (by kernel_rfl) _ rfl
        have e51 := hin.is 25 51 (by kernel_rfl) (by decide) (by kernel_rfl) (by kernel_rfl) _ rfl
        exact does_pick rfl e48 ⟨Same.refl _, eval_of_get e51⟩
      refine allp_mild 0 rfl rfl rfl (fun a x_ W hout hin hP => ?_) ?_
      · have e52 := hin.is 26 52 (by kernel_rfl) (by decide) (by kernel_rfl) (by kernel_rfl) _ rfl
        exact does_move rfl e52 ⟨Same.refl _, rfl⟩
      refine allp_mild 0 rfl rfl rfl (fun a x_ W hout hin hP => ?_) ?_
      · have e3 : a.tmps[3]? = some (.pointer none) := (hout 3 (by kernel_rfl)).trans rfl
        exact does_move rfl e3 ⟨Same.refl _, rfl⟩
      refine allp_mild 0 rfl rfl rfl (fun a x_ W hout hin hP => ?_) ?_
      · have e54 := hin.is 28 54 (by kernel_rfl) (by decide) (by kernel_rfl) (by kernel_rfl) _ rfl
        have h0 := hP
        clear hP
        clear hin hout
        intro K0 Q hK
        go_simp
        refine (D.lenNil W).mono ?_
        rintro e W' ⟨rfl, hb⟩
        exact hK _ _ ⟨hb, rfl⟩
      refine allp_mild 0 rfl rfl rfl (fun a x_ W hout hin hP => ?_) ?_
      · have e55 := hin.is 29 55 (by kernel_rfl) (by decide) (by kernel_rfl) (by kernel_rfl) _ rfl
        clear hin hout
        intro K Q hK
        go_simp
        exact hK _ _ ⟨Same.refl _, rfl⟩
      refine allp_mild 0 rfl rfl rfl (fun a x_ W hout hin hP => ?_) ?_
      · have e53 := hin.is 27 53 (by kernel_rfl) (by decide) (by kernel_rfl) (by kernel_rfl) _ rfl
        have e56 := hin.is 30 56 (by kernel_rfl) (by decide) (by kernel_rfl) (by kernel_rfl) _ rfl
        exact does_pick rfl e53 ⟨Same.refl _, eval_of_get e56⟩
      refine allp_mild 0 rfl rfl rfl (fun a x_ W hout hin hP => ?_) ?_
      · have e57 := hin.is 31 57 (by kernel_rfl) (by decide) (by kernel_rfl) (by kernel_rfl) _ rfl
        exact does_move rfl e57 ⟨Same.refl _, rfl⟩
      refine allp_mild 0 rfl rfl rfl (fun a x_ W hout hin hP => ?_) ?_
      · have e3 : a.tmps[3]? = some (.pointer none) := (hout 3 (by kernel_rfl)).trans rfl
        exact does_move rfl e3 ⟨Same.refl _, rfl⟩
      refine allp_mild 0 rfl rfl rfl (fun a x_ W hout hin hP => ?_) ?_
      · have e59 := hin.is 33 59 (by kernel_rfl) (by decide) (by kernel_rfl) (by kernel_rfl) _ rfl
        have h0 := hP
        clear hP
        clear hin hout
        intro K0 Q hK
        go_simp
        refine (D.downNil W).mono ?_
        rintro e W' ⟨rfl, hb⟩
        exact hK _ _ ⟨hb, rfl⟩
      refine allp_mild 0 rfl rfl rfl (fun a x_ W hout hin hP => ?_) ?_
      · have e60 := hin.is 34 60 (by kernel_rfl) (by decide) (by kernel_rfl) (by kernel_rfl) _ rfl
        exact does_not rfl e60 ⟨Same.refl _, rfl⟩
      refine allp_mild 0 rfl rfl rfl (fun a x_ W hout hin hP => ?_) ?_
      · have e58 := hin.is 32 58 (by kernel_rfl) (by decide) (by kernel_rfl) (by kernel_rfl) _ rfl
        have e61 := hin.is 35 61 (by kernel_rfl) (by decide) (by kernel_rfl) (by kernel_rfl) _ rfl
        exact does_pick rfl e58 ⟨Same.refl _, eval_of_get e61⟩
      refine allp_mild 0 rfl rfl rfl (fun a x_ W hout hin hP => ?_) ?_
      · have e62 := hin.is 36 62 (by kernel_rfl) (by decide) (by kernel_rfl) (by kernel_rfl) _ rfl
        exact does_move rfl e62 ⟨Same.refl _, rfl⟩
      refine allp_mild 0 rfl rfl rfl (fun a x_ W hout hin hP => ?_) ?_
      · have h0 := hP
        clear hP
        clear hin hout
        intro K0 Q hK
        go_simp
        refine (dwakes_any D W).mono ?_
        rintro e W' ⟨rfl, hb⟩
        exact hK _ _ ⟨hb, rfl⟩
      refine allp_mild 0 rfl rfl rfl (fun a x_ W hout hin hP => ?_) ?_
      · have e63 := hin.is 37 63 (by kernel_rfl) (by decide) (by kernel_rfl) (by kernel_rfl) _ rfl
        have e64 := hin.is 38 64 (by kernel_rfl) (by decide) (by kernel_rfl) (by kernel_rfl) _ rfl
        exact does_pick rfl e63 ⟨Same.refl _, eval_of_get e64⟩
      refine allp_mild 0 rfl rfl rfl (fun a x_ W hout hin hP => ?_) ?_
      · have e65 := hin.is 39 65 (by kernel_rfl) (by decide) (by kernel_rfl) (by kernel_rfl) _ rfl
        exact does_assign rfl e65 ⟨Same.refl _, rfl⟩
      exact all_end (by decide)
    · intro x_ W hP hV
      have h2 : x_ 40 = .bool true := hV 40 (by decide) (.inl (by kernel_rfl))
      have HP := Lib.hid hP
      clear hV hP
      simp only [putL, Act.put, List.setIfInBounds_toArray, List.set_cons_succ, List.set_cons_zero, h2]
      refine wpAnyH_done (by kernel_rfl) ?_ _
      go_wp2_with fail
      go_ret
      exact ⟨rfl, HP.out.below⟩
end Go.Proofs.Yteehpdeeaebliaa
