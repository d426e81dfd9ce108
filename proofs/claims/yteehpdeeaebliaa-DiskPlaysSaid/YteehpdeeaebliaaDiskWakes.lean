/- The chapter's example of disk, asked by the statements. -/
import Derived.Test.YteehpdeeaebliaaDiskIf
import Derived.Test.YteehpdeeaebliaaEqI
import Derived.Test.YteehpdeeaebliaaPhs
namespace Go.Proofs.Yteehpdeeaebliaa
open Go Go.RowKit
def wk0 : DiskM := DiskM.new 4
def wk1 : DiskM := (wk0.wRes 1 (blk 7#8)).2
def wk2 : DiskM := (wk1.wRes 1 (blk 8#8)).2
def wk3 : DiskM := (wk2.wRes 4 (blk 8#8)).2
def wk4 : DiskM := wk3.fused 1
def wk5 : DiskM := (wk4.wRes 2 (blk 9#8)).2
def wk6 : DiskM := wk5.fRes.2
def wk7 : DiskM := wk6.upped [1#8, 2#8, 3#8]
theorem eql_blk (p q : List (BitVec 8)) (hp : p.length = 32) (hq : q.length = 32) (w : World) : (Op.equalIn 10000 37 (.agg (bs p)) (.agg (bs q))).run Try.prog w = .ok (decide (p = q)) w := equal_bytes _ 32 p q hp hq Try.underlying37 w
/- the same contracts, the answer and the new disk named by their own words -/
theorem DiskOps.write' (D : DiskOps) {base : Nat} {w : World} {p : Value} {M : DiskM} {F : Nat → Prop} (i : Int) (b : List (BitVec 8)) (h : D.A base w p M F) (hb : b.length = 32) (hl : M.l.length ≤ few) (hi : -9223372036854775808 ≤ i ∧ i < 9223372036854775808) (M' : DiskM) (r : Int) (hM : (M.wRes i b).2 = M') (hr : (M.wRes i b).1 = r) : Calls Try.prog 12 #[p, .int .i64 i, .agg (bs b)] w (Acts D.A base w p F M' (.int .i64 r)) := by
  subst hM hr; exact D.write base w p M F i b h hb hl hi
theorem DiskOps.flush' (D : DiskOps) {base : Nat} {w : World} {p : Value} {M : DiskM} {F : Nat → Prop} (h : D.A base w p M F) (hl : M.l.length ≤ few) (M' : DiskM) (r : Int) (hM : M.fRes.2 = M') (hr : M.fRes.1 = r) : Calls Try.prog 17 #[p] w (Acts D.A base w p F M' (.int .i64 r)) := by
  subst hM hr; exact D.flush base w p M F h hl
theorem DiskOps.read' (D : DiskOps) {base : Nat} {w : World} {p : Value} {M : DiskM} {F : Nat → Prop} (i : Int) (h : D.A base w p M F) (hl : M.l.length ≤ few) (hi : -9223372036854775808 ≤ i ∧ i < 9223372036854775808) (b : List (BitVec 8)) (r : Int) (hM : M.rRes i = (b, r)) : Calls Try.prog 15 #[p, .int .i64 i] w (Asks w (.tuple #[.agg (bs b), .int .i64 r])) := by
  have := D.read base w p M F i h hl hi
  rw [hM] at this; exact this
theorem DiskOps.still (D : DiskOps) {base : Nat} {w w' : World} {p : Value} {M : DiskM} {F : Nat → Prop} (h : D.A base w p M F) (hb : Below w.heap.size w w') : D.A base w' p M F := D.keep h (Chg.of_below (F := fun _ => False) hb) fun _ _ => id
theorem acts_below {base : Nat} {w w' : World} {F : Nat → Prop} (hF : ∀ k, F k → base ≤ k ∧ k < w.heap.size) (hc : Chg F w w') (hB : base ≤ w.heap.size) : Below base w w' := hc.below (fun k hk => (hF k hk).1) hB
def WkAt (D : DiskOps) (w W : World) (g gx gy : Nat) (F : Nat → Prop) : Prop := D.A w.heap.size W (.pointer (some ⟨g, 0, none⟩)) wk7 F ∧ Row W gx 37 (bs (blk 7#8)) ∧ Row W gy 37 (bs (blk 9#8)) ∧ Below w.heap.size w W
theorem wkAt_stays {D : DiskOps} {w W W' : World} {g gx gy : Nat} {F : Nat → Prop} (h : WkAt D w W g gx gy F) (k : Same W W') : WkAt D w W' g gx gy F := ⟨D.still h.1 k, h.2.1.call k, h.2.2.1.call k, h.2.2.2.trans (k.mono h.2.2.2.size)⟩
theorem keep3 (w : World) : Slice (w.alloc (.cells #[.int .u8 1, .int .u8 2, .int .u8 3] 5)) (.slice (some ⟨w.heap.size, 0, none⟩) 3 3) [1#8, 2#8, 3#8] := bytes_slice (q := [1#8, 2#8, 3#8]) (t := 5) (fr := (0, 0)) (heap_alloc_new w _) (by decide)
set_option maxRecDepth 20000 in
set_option maxHeartbeats 1600000 in
theorem dwakes_any (D : DiskOps) (w : World) : Calls Try.prog 9 #[] w fun e w' => e = .returned (.bool true) ∧ Below w.heap.size w w' := by
  have C0 := D.new w.heap.size w 4 (Nat.le_refl _) (by decide)
  rw [makes_yes _ _ _ _ (by decide)] at C0
  go_enter Try.func9, Try.ntmps9
  go_wp2_with fail
  refine C0.mono ?_
  rintro e w1 ⟨g, F1, rfl, hA, hb1, hF1⟩
  have hA : D.A w.heap.size w1 (.pointer (some ⟨g, 0, none⟩)) wk0 F1 := hA
  clear C0
  go_wp2_with fail
  refine (fill_any 7#8 w1).mono ?_
  rintro e w2 ⟨rfl, hf⟩
  replace hA := D.still hA hf
  have hb2 := hb1.trans (hf.mono hb1.size)
  clear hf hb1
  have hl := D.lt hA
  have C1 := D.write' 1 (blk 7#8) hA (length_blk _) (by decide) (by decide) wk1 0 rfl (by decide +kernel)
  clear hA
  go_wp2_with fail
  refine C1.mono ?_
  rintro e w3 ⟨rfl, F3, hA, hC, hF3⟩
  have hb3 := hb2.trans (acts_below hl hC hb2.size)
  clear hC hl C1 hb2
  go_wp2_with fail
  refine (fill_any 8#8 w3).mono ?_
  rintro e w4 ⟨rfl, hf⟩
  replace hA := D.still hA hf
  have hb4 := hb3.trans (hf.mono hb3.size)
  clear hf hb3
  have hl := D.lt hA
  have C1 := D.write' 1 (blk 8#8) hA (length_blk _) (by decide +kernel) (by decide) wk2 0 rfl (by decide +kernel)
  clear hA
  go_wp2_with fail
  refine C1.mono ?_
  rintro e w5 ⟨rfl, F5, hA, hC, hF5⟩
  have hb5 := hb4.trans (acts_below hl hC hb4.size)
  clear hC hl C1 hb4
  go_wp2_with fail
  refine (fill_any 8#8 w5).mono ?_
  rintro e w6 ⟨rfl, hf⟩
  replace hA := D.still hA hf
  have hb6 := hb5.trans (hf.mono hb5.size)
  clear hf hb5
  have hl := D.lt hA
  have C1 := D.write' 4 (blk 8#8) hA (length_blk _) (by decide +kernel) (by decide) wk3 1 rfl (by decide +kernel)
  clear hA
  go_wp2_with fail
  refine C1.mono ?_
  rintro e w7 ⟨rfl, F7, hA, hC, hF7⟩
  have hb7 := hb6.trans (acts_below hl hC hb6.size)
  clear hC hl C1 hb6
  have C1 := D.loose _ _ _ wk3 _ hA (by decide +kernel)
  go_wp2_with fail
  refine C1.mono ?_
  rintro e w8 ⟨rfl, hf⟩
  replace hA := D.still hA hf
  have hb8 := hb7.trans (hf.mono hb7.size)
  clear C1 hb7
  clear hf
  have hl := D.lt hA
  have C1 := D.fuse _ _ _ wk3 _ 1 hA (by decide)
  clear hA
  go_wp2_with fail
  refine C1.mono ?_
  rintro e w9 ⟨rfl, F9, hA, hC, hF9⟩
  have hb9 := hb8.trans (acts_below hl hC hb8.size)
  clear hC hl C1 hb8
  go_wp2_with fail
  refine (fill_any 9#8 w9).mono ?_
  rintro e w10 ⟨rfl, hf⟩
  replace hA := D.still hA hf
  have hb10 := hb9.trans (hf.mono hb9.size)
  clear hf hb9
  have hl := D.lt hA
  have C1 := D.write' 2 (blk 9#8) hA (length_blk _) (by decide +kernel) (by decide) wk5 0 rfl (by decide +kernel)
  clear hA
  go_wp2_with fail
  refine C1.mono ?_
  rintro e w11 ⟨rfl, F11, hA, hC, hF11⟩
  have hb11 := hb10.trans (acts_below hl hC hb10.size)
  clear hC hl C1 hb10
  have hl := D.lt hA
  have C1 := D.flush' hA (by decide +kernel) wk6 20 rfl (by decide +kernel)
  clear hA
  go_wp2_with fail
  refine C1.mono ?_
  rintro e w12 ⟨rfl, F12, hA, hC, hF12⟩
  have hb12 := hb11.trans (acts_below hl hC hb11.size)
  clear hC hl C1 hb11
  have C1 := D.read' 1 hA (by decide +kernel) (by decide) (blk 0#8) 20 (by decide +kernel)
  go_wp2_with fail
  refine C1.mono ?_
  rintro e w13 ⟨rfl, hf⟩
  replace hA := D.still hA hf
  have hb13 := hb12.trans (hf.mono hb12.size)
  clear C1 hb12
  clear hf
  go_wp2_with (first | (refine wpList_store_row rfl 37 _ _ rfl w13.heap.size (bs (blk 0#8)) rfl rfl 37 _ (Row.fresh _ _ _) (by rw [size_bs, length_blk]; exact size_blk) (by rw [size_bs, length_blk]; rfl) (one_bs _) ?_; rw [World.setRow_alloc_new]))
  have hs := Same.alloc w13 (.cells (bs (blk 0#8)) 37)
  replace hA := D.still hA hs
  have hb14 := hb13.trans (hs.mono hb13.size)
  generalize w13.alloc (.cells (bs (blk 0#8)) 37) = w14 at *
  clear hs hb13
  have C1 := D.down _ _ _ wk6 _ hA
  go_wp2_with fail
  refine C1.mono ?_
  rintro e w15 ⟨rfl, hf⟩
  replace hA := D.still hA hf
  have hb15 := hb14.trans (hf.mono hb14.size)
  clear C1 hb14
  clear hf
  have hs := Same.alloc w15 (.cells #[.int .u8 1, .int .u8 2, .int .u8 3] 5)
  have hk := keep3 w15
  have hl0 := D.lt hA
  replace hA := D.still hA hs
  have hl := D.lt hA
  have C1 := D.up _ _ _ wk6 _ _ [1#8, 2#8, 3#8] hA (by decide +kernel) hk (by decide) (fun k hk hF => by injection hk with hk; change w15.heap.size = k at hk; have := (hl0 k hF).2; omega)
  have hb16 := hb15.trans (hs.mono hb15.size)
  clear hk hl0 hb15 hs hA
  go_wp2_with fail
  refine C1.mono ?_
  rintro e w17 ⟨rfl, F17, hA, hC, hF17⟩
  have hA : D.A w.heap.size w17 (.pointer (some ⟨g, 0, none⟩)) wk7 F17 := hA
  have hb17 := hb16.trans (acts_below hl hC hb16.size)
  clear hC hl C1 hb16
  have C1 := D.read' 1 hA (by decide +kernel) (by decide) (blk 7#8) 0 (by decide +kernel)
  go_wp2_with fail
  refine C1.mono ?_
  rintro e w18 ⟨rfl, hf⟩
  replace hA := D.still hA hf
  have hb18 := hb17.trans (hf.mono hb17.size)
  clear C1 hb17
  clear hf
  go_wp2_with (first | (refine wpList_store_row rfl 37 _ _ rfl w18.heap.size (bs (blk 7#8)) rfl rfl 37 _ (Row.fresh _ _ _) (by rw [size_bs, length_blk]; exact size_blk) (by rw [size_bs, length_blk]; rfl) (one_bs _) ?_; rw [World.setRow_alloc_new]))
  have hs := Same.alloc w18 (.cells (bs (blk 7#8)) 37)
  replace hA := D.still hA hs
  have hb19 := hb18.trans (hs.mono hb18.size)
  have rx := Row.fresh w18 37 (bs (blk 7#8))
  obtain ⟨gx, hgx⟩ : ∃ k, w18.heap.size = k := ⟨_, rfl⟩
  rw [hgx] at rx ⊢
  generalize w18.alloc (.cells (bs (blk 7#8)) 37) = w19 at *
  clear hs hb18 hgx
  have C1 := D.read' 2 hA (by decide +kernel) (by decide) (blk 9#8) 0 (by decide +kernel)
  go_wp2_with fail
  refine C1.mono ?_
  rintro e w20 ⟨rfl, hf⟩
  replace hA := D.still hA hf
  have hb20 := hb19.trans (hf.mono hb19.size)
  clear C1 hb19
  replace rx := rx.call hf
  clear hf
  go_wp2_with (first | (refine wpList_store_row rfl 37 _ _ rfl w20.heap.size (bs (blk 9#8)) rfl rfl 37 _ (Row.fresh _ _ _) (by rw [size_bs, length_blk]; exact size_blk) (by rw [size_bs, length_blk]; rfl) (one_bs _) ?_; rw [World.setRow_alloc_new]))
  have hs := Same.alloc w20 (.cells (bs (blk 9#8)) 37)
  replace hA := D.still hA hs
  have hb21 := hb20.trans (hs.mono hb20.size)
  replace rx := rx.call hs
  have ry := Row.fresh w20 37 (bs (blk 9#8))
  obtain ⟨gy, hgy⟩ : ∃ k, w20.heap.size = k := ⟨_, rfl⟩
  rw [hgy] at ry ⊢
  generalize w20.alloc (.cells (bs (blk 9#8)) 37) = w21 at *
  clear hs hb20 hgy
  have HA := Lib.hid hA
  have RX := Lib.hid rx
  have RY := Lib.hid ry
  clear hA rx ry
  go_wp2_with fail
  generalize F17 = F at *
  have hF0 : Wl [fun W => WkAt D w W g gx gy F] 0 w21.drew := ⟨D.still HA.out (Below.refl _ _).drew, RX.out, RY.out, hb21.drew⟩
  refine wp_region_phs [is (.int .i64 0), is (.bool true), is (.bool true), is (.int .i64 20), is (.bool true), is (.bool true), is (.bool true), is (.int .i64 20), is (.bool true), is (.bool true), is (.bool true), is (.bool true), is (.bool true), is (.bool true), is (.pointer (some ⟨g, 0, none⟩)), is (.bool false), is (.bool true), is (.bool true), is (.bool true), is (.int .i64 0), is (.bool true), is (.bool true), is (.bool true), is (.int .i64 0), is (.bool true), is (.bool true), is (.bool true), is (.agg (bs (blk 7#8))), is (.agg (bs (blk 7#8))), is (.bool true), is (.bool true), is (.bool true), is (.agg (bs (blk 9#8))), is (.agg (bs (blk 9#8))), is (.bool true), is (.bool true), is (.bool true), is (.pointer (some ⟨g, 0, none⟩)), is (.int .i64 0), is (.bool true), is (.bool true), is (.bool true), is (.pointer (some ⟨g, 0, none⟩)), is (.int .i64 4), is (.bool true), is (.bool true), is (.bool true)] [true, true, true, true, true, true, true, true, true, true, true, true, true, true, true, true, true, true, true, true, true, true, true, true, true, true, true, true, true, true, true, true, true, true, true, true, true, true, true, true, true, true, true, true, true, true, true] [(fun W => WkAt D w W g gx gy F)] [false, false, false, false, false, false, false, false, false, false, false, false, false, false, false, false, false, false, false, false, false, false, false, false, false, false, false, false, false, false, false, false, false, false, false, false, false, false, false, false, false, false, false, false, false, false, false] [some 0, some 0, some 0, some 0, some 0, some 0, some 0, some 0, some 0, some 0, some 0, some 0, some 0, some 0, some 0, some 0, some 0, some 0, some 0, some 0, some 0, some 0, some 0, some 0, some 0, some 0, some 0, some 0, some 0, some 0, some 0, some 0, some 0, some 0, some 0, some 0, some 0, some 0, some 0, some 0, some 0, some 0, some 0, some 0, some 0, some 0, some 0] [some 72, some 73, some 74, some 75, some 76, some 77, some 78, some 79, some 80, some 81, some 82, some 83, some 84, some 85, some 86, some 87, some 88, some 89, some 90, some 91, some 92, some 93, some 94, some 95, some 96, some 97, some 98, some 99, some 100, some 101, some 102, some 103, some 104, some 105, some 106, some 107, some 108, some 109, some 110, some 111, some 112, some 113, some 114, some 115, some 116, some 117, some 0] 47 0 (fun _ => true) rfl rfl (by kernel_rfl) (by kernel_rfl) (by kernel_rfl) (by kernel_rfl) ?_ ?_ ?_ ?_ ?_ ?_
  · repeat first | exact wok_nil | refine wok_cons (by first | exact fun _ _ h k => wkAt_stays h k) ?_
  · repeat first | exact vok_nil | refine vok_rig (by first | exact fun _ _ _ h => h) ?_ | refine vok_soft (by first | exact fun _ _ _ h _ => h) ?_
  · exact hF0
  · repeat first | exact all_end (by decide) | refine all_cons (by first | exact rfl | exact ⟨rfl, fun _ _ h => h⟩) ?_
  · refine allp_mild 0 rfl rfl rfl (fun a x W hout hin hP => ?_) ?_
    · have e3 : a.tmps[3]? = some (.int .i64 0) := (hout 3 (by kernel_rfl)).trans rfl
      exact does_move rfl e3 ⟨Same.refl _, rfl⟩
    refine allp_mild 0 rfl rfl rfl (fun a x W hout hin hP => ?_) ?_
    · have e72 := hin.is 0 72 (by kernel_rfl) (by decide) (by kernel_rfl) (by kernel_rfl) _ rfl
      clear hin hout
      intro K Q hK
      go_simp
      exact hK _ _ ⟨Same.refl _, rfl⟩
    refine allp_mild 0 rfl rfl rfl (fun a x W hout hin hP => ?_) ?_
    · have e73 := hin.is 1 73 (by kernel_rfl) (by decide) (by kernel_rfl) (by kernel_rfl) _ rfl
      exact does_move rfl e73 ⟨Same.refl _, rfl⟩
    refine allp_mild 0 rfl rfl rfl (fun a x W hout hin hP => ?_) ?_
    · have e4 : a.tmps[4]? = some (.int .i64 20) := (hout 4 (by kernel_rfl)).trans rfl
      exact does_move rfl e4 ⟨Same.refl _, rfl⟩
    refine allp_mild 0 rfl rfl rfl (fun a x W hout hin hP => ?_) ?_
    · have e75 := hin.is 3 75 (by kernel_rfl) (by decide) (by kernel_rfl) (by kernel_rfl) _ rfl
      clear hin hout
      intro K Q hK
      go_simp
      exact hK _ _ ⟨Same.refl _, rfl⟩
    refine allp_mild 0 rfl rfl rfl (fun a x W hout hin hP => ?_) ?_
    · have e74 := hin.is 2 74 (by kernel_rfl) (by decide) (by kernel_rfl) (by kernel_rfl) _ rfl
      have e76 := hin.is 4 76 (by kernel_rfl) (by decide) (by kernel_rfl) (by kernel_rfl) _ rfl
      exact does_pick rfl e74 ⟨Same.refl _, eval_of_get e76⟩
    refine allp_mild 0 rfl rfl rfl (fun a x W hout hin hP => ?_) ?_
    · have e77 := hin.is 5 77 (by kernel_rfl) (by decide) (by kernel_rfl) (by kernel_rfl) _ rfl
      exact does_move rfl e77 ⟨Same.refl _, rfl⟩
    refine allp_mild 0 rfl rfl rfl (fun a x W hout hin hP => ?_) ?_
    · have e6 : a.tmps[6]? = some (.int .i64 20) := (hout 6 (by kernel_rfl)).trans rfl
      exact does_move rfl e6 ⟨Same.refl _, rfl⟩
    refine allp_mild 0 rfl rfl rfl (fun a x W hout hin hP => ?_) ?_
    · have e79 := hin.is 7 79 (by kernel_rfl) (by decide) (by kernel_rfl) (by kernel_rfl) _ rfl
      clear hin hout
      intro K Q hK
      go_simp
      exact hK _ _ ⟨Same.refl _, rfl⟩
    refine allp_mild 0 rfl rfl rfl (fun a x W hout hin hP => ?_) ?_
    · have e78 := hin.is 6 78 (by kernel_rfl) (by decide) (by kernel_rfl) (by kernel_rfl) _ rfl
      have e80 := hin.is 8 80 (by kernel_rfl) (by decide) (by kernel_rfl) (by kernel_rfl) _ rfl
      exact does_pick rfl e78 ⟨Same.refl _, eval_of_get e80⟩
    refine allp_mild 0 rfl rfl rfl (fun a x W hout hin hP => ?_) ?_
    · have e81 := hin.is 9 81 (by kernel_rfl) (by decide) (by kernel_rfl) (by kernel_rfl) _ rfl
      exact does_move rfl e81 ⟨Same.refl _, rfl⟩
    refine allp_mild 0 rfl rfl rfl (fun a x W hout hin hP => ?_) ?_
    · have e7 : a.tmps[7]? = some (.bool true) := (hout 7 (by kernel_rfl)).trans rfl
      clear hin hout
      intro K Q hK
      go_simp
      exact hK _ _ ⟨Same.refl _, rfl⟩
    refine allp_mild 0 rfl rfl rfl (fun a x W hout hin hP => ?_) ?_
    · have e82 := hin.is 10 82 (by kernel_rfl) (by decide) (by kernel_rfl) (by kernel_rfl) _ rfl
      have e83 := hin.is 11 83 (by kernel_rfl) (by decide) (by kernel_rfl) (by kernel_rfl) _ rfl
      exact does_pick rfl e82 ⟨Same.refl _, eval_of_get e83⟩
    refine allp_mild 0 rfl rfl rfl (fun a x W hout hin hP => ?_) ?_
    · have e84 := hin.is 12 84 (by kernel_rfl) (by decide) (by kernel_rfl) (by kernel_rfl) _ rfl
      exact does_move rfl e84 ⟨Same.refl _, rfl⟩
    refine allp_mild 0 rfl rfl rfl (fun a x W hout hin hP => ?_) ?_
    · have e1 : a.tmps[1]? = some (.pointer (some ⟨g, 0, none⟩)) := (hout 1 (by kernel_rfl)).trans rfl
      exact does_move rfl e1 ⟨Same.refl _, rfl⟩
    refine allp_mild 0 rfl rfl rfl (fun a x W hout hin hP => ?_) ?_
    · have e86 := hin.is 14 86 (by kernel_rfl) (by decide) (by kernel_rfl) (by kernel_rfl) _ rfl
      have hA := hP.1
      clear hP
      clear hin hout
      intro K Q hK
      go_simp
      refine (D.down _ W _ wk7 F hA).mono ?_
      rintro e W' ⟨rfl, hb⟩
      exact hK _ _ ⟨hb, rfl⟩
    refine allp_mild 0 rfl rfl rfl (fun a x W hout hin hP => ?_) ?_
    · have e87 := hin.is 15 87 (by kernel_rfl) (by decide) (by kernel_rfl) (by kernel_rfl) _ rfl
      exact does_not rfl e87 ⟨Same.refl _, rfl⟩
    refine allp_mild 0 rfl rfl rfl (fun a x W hout hin hP => ?_) ?_
    · have e85 := hin.is 13 85 (by kernel_rfl) (by decide) (by kernel_rfl) (by kernel_rfl) _ rfl
      have e88 := hin.is 16 88 (by kernel_rfl) (by decide) (by kernel_rfl) (by kernel_rfl) _ rfl
      exact does_pick rfl e85 ⟨Same.refl _, eval_of_get e88⟩
    refine allp_mild 0 rfl rfl rfl (fun a x W hout hin hP => ?_) ?_
    · have e89 := hin.is 17 89 (by kernel_rfl) (by decide) (by kernel_rfl) (by kernel_rfl) _ rfl
      exact does_move rfl e89 ⟨Same.refl _, rfl⟩
    refine allp_mild 0 rfl rfl rfl (fun a x W hout hin hP => ?_) ?_
    · have e9 : a.tmps[9]? = some (.int .i64 0) := (hout 9 (by kernel_rfl)).trans rfl
      exact does_move rfl e9 ⟨Same.refl _, rfl⟩
    refine allp_mild 0 rfl rfl rfl (fun a x W hout hin hP => ?_) ?_
    · have e91 := hin.is 19 91 (by kernel_rfl) (by decide) (by kernel_rfl) (by kernel_rfl) _ rfl
      clear hin hout
      intro K Q hK
      go_simp
      exact hK _ _ ⟨Same.refl _, rfl⟩
    refine allp_mild 0 rfl rfl rfl (fun a x W hout hin hP => ?_) ?_
    · have e90 := hin.is 18 90 (by kernel_rfl) (by decide) (by kernel_rfl) (by kernel_rfl) _ rfl
      have e92 := hin.is 20 92 (by kernel_rfl) (by decide) (by kernel_rfl) (by kernel_rfl) _ rfl
      exact does_pick rfl e90 ⟨Same.refl _, eval_of_get e92⟩
    refine allp_mild 0 rfl rfl rfl (fun a x W hout hin hP => ?_) ?_
    · have e93 := hin.is 21 93 (by kernel_rfl) (by decide) (by kernel_rfl) (by kernel_rfl) _ rfl
      exact does_move rfl e93 ⟨Same.refl _, rfl⟩
    refine allp_mild 0 rfl rfl rfl (fun a x W hout hin hP => ?_) ?_
    · have e11 : a.tmps[11]? = some (.int .i64 0) := (hout 11 (by kernel_rfl)).trans rfl
      exact does_move rfl e11 ⟨Same.refl _, rfl⟩
    refine allp_mild 0 rfl rfl rfl (fun a x W hout hin hP => ?_) ?_
    · have e95 := hin.is 23 95 (by kernel_rfl) (by decide) (by kernel_rfl) (by kernel_rfl) _ rfl
      clear hin hout
      intro K Q hK
      go_simp
      exact hK _ _ ⟨Same.refl _, rfl⟩
    refine allp_mild 0 rfl rfl rfl (fun a x W hout hin hP => ?_) ?_
    · have e94 := hin.is 22 94 (by kernel_rfl) (by decide) (by kernel_rfl) (by kernel_rfl) _ rfl
      have e96 := hin.is 24 96 (by kernel_rfl) (by decide) (by kernel_rfl) (by kernel_rfl) _ rfl
      exact does_pick rfl e94 ⟨Same.refl _, eval_of_get e96⟩
    refine allp_mild 0 rfl rfl rfl (fun a x W hout hin hP => ?_) ?_
    · have e97 := hin.is 25 97 (by kernel_rfl) (by decide) (by kernel_rfl) (by kernel_rfl) _ rfl
      exact does_move rfl e97 ⟨Same.refl _, rfl⟩
    refine allp_mild 0 rfl rfl rfl (fun a x W hout hin hP => ?_) ?_
    · have e8 : a.tmps[8]? = some (.pointer (some ⟨gx, 0, none⟩)) := (hout 8 (by kernel_rfl)).trans rfl
      clear hin hout
      intro K Q hK
      refine wp_load_mid 37 (.tmp 8) rfl gx 0 (eval_of_get e8) (bs (blk 7#8)).toList _ (row_range hP.2.1 (Below.refl W.heap.size W) hP.2.1.lt) Try.underlying37 rfl (by rw [len_bs, length_blk]; exact size_blk) ?_
      exact hK _ _ ⟨Same.refl _, by simp [Vs, is]⟩
    refine allp_mild 0 rfl rfl rfl (fun a x W hout hin hP => ?_) ?_
    · clear hP
      clear hin hout
      intro K Q hK
      go_simp
      refine (fill_any 7#8 W).mono ?_
      rintro e W' ⟨rfl, hb⟩
      exact hK _ _ ⟨hb, rfl⟩
    refine allp_mild 0 rfl rfl rfl (fun a x W hout hin hP => ?_) ?_
    · have e99 := hin.is 27 99 (by kernel_rfl) (by decide) (by kernel_rfl) (by kernel_rfl) _ rfl
      have e100 := hin.is 28 100 (by kernel_rfl) (by decide) (by kernel_rfl) (by kernel_rfl) _ rfl
      have q := eql_blk (blk 7#8) (blk 7#8) (length_blk _) (length_blk _) W
      rw [decide_eq_true rfl] at q
      generalize blk 7#8 = D0 at *
      clear hin hout
      intro K Q hK
      go_simp
      exact hK _ _ ⟨Same.refl _, rfl⟩
    refine allp_mild 0 rfl rfl rfl (fun a x W hout hin hP => ?_) ?_
    · have e98 := hin.is 26 98 (by kernel_rfl) (by decide) (by kernel_rfl) (by kernel_rfl) _ rfl
      have e101 := hin.is 29 101 (by kernel_rfl) (by decide) (by kernel_rfl) (by kernel_rfl) _ rfl
      exact does_pick rfl e98 ⟨Same.refl _, eval_of_get e101⟩
    refine allp_mild 0 rfl rfl rfl (fun a x W hout hin hP => ?_) ?_
    · have e102 := hin.is 30 102 (by kernel_rfl) (by decide) (by kernel_rfl) (by kernel_rfl) _ rfl
      exact does_move rfl e102 ⟨Same.refl _, rfl⟩
    refine allp_mild 0 rfl rfl rfl (fun a x W hout hin hP => ?_) ?_
    · have e10 : a.tmps[10]? = some (.pointer (some ⟨gy, 0, none⟩)) := (hout 10 (by kernel_rfl)).trans rfl
      clear hin hout
      intro K Q hK
      refine wp_load_mid 37 (.tmp 10) rfl gy 0 (eval_of_get e10) (bs (blk 9#8)).toList _ (row_range hP.2.2.1 (Below.refl W.heap.size W) hP.2.2.1.lt) Try.underlying37 rfl (by rw [len_bs, length_blk]; exact size_blk) ?_
      exact hK _ _ ⟨Same.refl _, by simp [Vs, is]⟩
    refine allp_mild 0 rfl rfl rfl (fun a x W hout hin hP => ?_) ?_
    · clear hP
      clear hin hout
      intro K Q hK
      go_simp
      refine (fill_any 9#8 W).mono ?_
      rintro e W' ⟨rfl, hb⟩
      exact hK _ _ ⟨hb, rfl⟩
    refine allp_mild 0 rfl rfl rfl (fun a x W hout hin hP => ?_) ?_
    · have e104 := hin.is 32 104 (by kernel_rfl) (by decide) (by kernel_rfl) (by kernel_rfl) _ rfl
      have e105 := hin.is 33 105 (by kernel_rfl) (by decide) (by kernel_rfl) (by kernel_rfl) _ rfl
      have q := eql_blk (blk 9#8) (blk 9#8) (length_blk _) (length_blk _) W
      rw [decide_eq_true rfl] at q
      generalize blk 9#8 = D0 at *
      clear hin hout
      intro K Q hK
      go_simp
      exact hK _ _ ⟨Same.refl _, rfl⟩
    refine allp_mild 0 rfl rfl rfl (fun a x W hout hin hP => ?_) ?_
    · have e103 := hin.is 31 103 (by kernel_rfl) (by decide) (by kernel_rfl) (by kernel_rfl) _ rfl
      have e106 := hin.is 34 106 (by kernel_rfl) (by decide) (by kernel_rfl) (by kernel_rfl) _ rfl
      exact does_pick rfl e103 ⟨Same.refl _, eval_of_get e106⟩
    refine allp_mild 0 rfl rfl rfl (fun a x W hout hin hP => ?_) ?_
    · have e107 := hin.is 35 107 (by kernel_rfl) (by decide) (by kernel_rfl) (by kernel_rfl) _ rfl
      exact does_move rfl e107 ⟨Same.refl _, rfl⟩
    refine allp_mild 0 rfl rfl rfl (fun a x W hout hin hP => ?_) ?_
    · have e1 : a.tmps[1]? = some (.pointer (some ⟨g, 0, none⟩)) := (hout 1 (by kernel_rfl)).trans rfl
      exact does_move rfl e1 ⟨Same.refl _, rfl⟩
    refine allp_mild 0 rfl rfl rfl (fun a x W hout hin hP => ?_) ?_
    · have e109 := hin.is 37 109 (by kernel_rfl) (by decide) (by kernel_rfl) (by kernel_rfl) _ rfl
      have hA := hP.1
      clear hP
      clear hin hout
      intro K Q hK
      go_simp
      refine (D.loose _ W _ wk7 F hA (by decide)).mono ?_
      rintro e W' ⟨rfl, hb⟩
      exact hK _ _ ⟨hb, rfl⟩
    refine allp_mild 0 rfl rfl rfl (fun a x W hout hin hP => ?_) ?_
    · have e110 := hin.is 38 110 (by kernel_rfl) (by decide) (by kernel_rfl) (by kernel_rfl) _ rfl
      clear hin hout
      intro K Q hK
      go_simp
      exact hK _ _ ⟨Same.refl _, rfl⟩
    refine allp_mild 0 rfl rfl rfl (fun a x W hout hin hP => ?_) ?_
    · have e108 := hin.is 36 108 (by kernel_rfl) (by decide) (by kernel_rfl) (by kernel_rfl) _ rfl
      have e111 := hin.is 39 111 (by kernel_rfl) (by decide) (by kernel_rfl) (by kernel_rfl) _ rfl
      exact does_pick rfl e108 ⟨Same.refl _, eval_of_get e111⟩
    refine allp_mild 0 rfl rfl rfl (fun a x W hout hin hP => ?_) ?_
    · have e112 := hin.is 40 112 (by kernel_rfl) (by decide) (by kernel_rfl) (by kernel_rfl) _ rfl
      exact does_move rfl e112 ⟨Same.refl _, rfl⟩
    refine allp_mild 0 rfl rfl rfl (fun a x W hout hin hP => ?_) ?_
    · have e1 : a.tmps[1]? = some (.pointer (some ⟨g, 0, none⟩)) := (hout 1 (by kernel_rfl)).trans rfl
      exact does_move rfl e1 ⟨Same.refl _, rfl⟩
    refine allp_mild 0 rfl rfl rfl (fun a x W hout hin hP => ?_) ?_
    · have e114 := hin.is 42 114 (by kernel_rfl) (by decide) (by kernel_rfl) (by kernel_rfl) _ rfl
      have hA := hP.1
      clear hP
      clear hin hout
      intro K Q hK
      go_simp
      refine (D.len _ W _ wk7 F hA).mono ?_
      rintro e W' ⟨rfl, hb⟩
      exact hK _ _ ⟨hb, rfl⟩
    refine allp_mild 0 rfl rfl rfl (fun a x W hout hin hP => ?_) ?_
    · have e115 := hin.is 43 115 (by kernel_rfl) (by decide) (by kernel_rfl) (by kernel_rfl) _ rfl
      clear hin hout
      intro K Q hK
      go_simp
      exact hK _ _ ⟨Same.refl _, rfl⟩
    refine allp_mild 0 rfl rfl rfl (fun a x W hout hin hP => ?_) ?_
    · have e113 := hin.is 41 113 (by kernel_rfl) (by decide) (by kernel_rfl) (by kernel_rfl) _ rfl
      have e116 := hin.is 44 116 (by kernel_rfl) (by decide) (by kernel_rfl) (by kernel_rfl) _ rfl
      exact does_pick rfl e113 ⟨Same.refl _, eval_of_get e116⟩
    refine allp_mild 0 rfl rfl rfl (fun a x W hout hin hP => ?_) ?_
    · have e117 := hin.is 45 117 (by kernel_rfl) (by decide) (by kernel_rfl) (by kernel_rfl) _ rfl
      exact does_assign rfl e117 ⟨Same.refl _, rfl⟩
    exact all_end (by decide)
  · intro x W hP hV
    have h : x 46 = .bool true := hV 46 (by decide) (.inl (by kernel_rfl))
    have hbW := hP.2.2.2
    clear hV hP
    simp only [putL, Act.put, List.setIfInBounds_toArray, List.set_cons_succ, List.set_cons_zero, h]
    refine wpAnyH_done (by kernel_rfl) ?_ _
    go_wp2_with fail
    go_ret
    exact ⟨rfl, hbW⟩
end Go.Proofs.Yteehpdeeaebliaa
