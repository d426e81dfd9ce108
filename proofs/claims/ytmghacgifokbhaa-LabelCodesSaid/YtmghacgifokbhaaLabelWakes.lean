/- The example of label's statements. -/
import Derived.Test.YtmghacgifokbhaaLabelIf
set_option maxRecDepth 4000
namespace Go.Proofs.Ytmghacgifokbhaa
open Go Go.RowKit
attribute [local go_sem high] eql_lab
def labEx : Lab := ⟨258#32, 3#32, 4#32, 5#16, 0x0800#16⟩
theorem lab_ex : (((((labCells lab0).setIfInBounds 0 (.int .u32 258)).setIfInBounds 1 (.int .u32 3)).setIfInBounds 2 (.int .u32 4)).setIfInBounds 3 (.int .u16 5)).setIfInBounds 4 (.int .u16 2048) = labCells labEx := by rfl
theorem lab_ex2 : bd ((labB labEx).getD 0 0#8) = 76 ∧ bd ((labB labEx).getD 1 0#8) = 2 ∧ bd ((labB labEx).getD 2 0#8) = 1 ∧ bd ((labB labEx).getD 16 0#8) = 8 ∧ laterB 2#32 0#32 1#32 9#32 = true ∧ laterB 1#32 9#32 1#32 9#32 = false ∧ hd (bitsOf [3, 12]) = 8 := by decide +kernel
theorem row_at_bs' {w : World} {g : Nat} {t : TypeId} {q : List (BitVec 8)} (h : Row w g t (bs q)) {i : Nat} {x : Int} (hi : i < q.length) (hx : bd (q.getD i 0#8) = x) : w.cell? ⟨g, i, none⟩ = some (.int .u8 x) := by
  rw [← hx]; exact h.get (get_bs q i hi)
set_option maxRecDepth 20000 in
set_option maxHeartbeats 1600000 in
theorem lwakes_any (D : LabelOps) (w : World) : Calls Try.prog 8 #[] w fun e w' => e = .returned (.bool true) ∧ Below w.heap.size w w' := by
  obtain ⟨x1, x2, x3, x4, x5, x6, x7⟩ := lab_ex2
  have hz := zeros_blk
  have hzl := zeros_lab
  have hx := lab_ex
  have HXL : Hid ((labB labEx).length = 32) := Lib.hid (length_labB _)
  have C1 := fun w => D.enc labEx w
  have C2 := fun w => D.dec (labB labEx) w (length_labB _)
  have C3 := fun w => D.dec (blk 0#8) w (length_blk _)
  have C4 : ∀ w, Calls Try.prog 13 #[.int .u32 2, .int .u32 0, .int .u32 1, .int .u32 9] w fun r w' => r = .returned (.bool true) ∧ Below w.heap.size w w' := fun w => by
    have := D.later 2#32 0#32 1#32 9#32 w; rw [x5] at this; exact this
  have C5 : ∀ w, Calls Try.prog 13 #[.int .u32 1, .int .u32 9, .int .u32 1, .int .u32 9] w fun r w' => r = .returned (.bool false) ∧ Below w.heap.size w w' := fun w => by
    have := D.later 1#32 9#32 1#32 9#32 w; rw [x6] at this; exact this
  have C6 := fun v w h => D.bits [(3, blk 0#8), (12, blk 0#8)] v w h (by decide)
  rw [decLab_labB, decLabE_labB] at C2
  rw [show decLab (blk 0#8) = lab0 by decide +kernel, show decLabE (blk 0#8) = 0 by decide +kernel] at C3
  rw [show ([(3, blk 0#8), (12, blk 0#8)] : List (Int × List (BitVec 8))).map (·.1) = [3, 12] from rfl, x7] at C6
  have HC1 := Lib.hid C1
  have HC2 := Lib.hid C2
  have HC3 := Lib.hid C3
  have HC4 := Lib.hid C4
  have HC5 := Lib.hid C5
  have HC6 := Lib.hid C6
  have HF := Lib.hid (And.intro x1 (And.intro x2 (And.intro x3 x4)))
  clear C1 C2 C3 C4 C5 C6 x1 x2 x3 x4 x5 x6 x7
  generalize labB labEx = X at *
  generalize labEx = L at *
  go_enter Try.func8, Try.ntmps8
  have r1 := Row.fresh w 25 (labCells L)
  go_wp2_with (first | (refine wpList_store_row rfl 25 _ _ rfl w.heap.size (labCells L) rfl rfl 25 _ (Row.fresh _ _ _) size_lab rfl (one_lab _) ?_; rw [World.setRow_alloc_new]) | (refine wpList_load_row rfl 25 _ rfl w.heap.size rfl 25 (labCells L) (0, 0) _ r1 Try.underlying25 rfl size_lab ?_))
  obtain ⟨g1, hg1⟩ : ∃ g1, w.heap.size = g1 := ⟨_, rfl⟩
  have HB1 := Lib.hid ((Below.refl w.heap.size w).alloc (Nat.le_refl _) (.cells (labCells L) 25))
  rw [hg1] at r1
  rw [hg1]
  have R1 := Lib.hid r1
  clear hg1 r1
  generalize w.alloc (.cells (labCells L) 25) = W1 at *
  refine (HC1.out W1).mono ?_
  rintro e w2 ⟨rfl, hb2⟩
  have HB2 := Lib.hid (HB1.out.trans (hb2.mono HB1.out.size))
  have R1b := Lib.hid ((R1.out.call hb2).alloc (.cells (bs X) 27))
  have R2 := Lib.hid (Row.fresh w2 27 (bs X))
  have HBB2 := Lib.hid (HB2.out.alloc HB2.out.size (.cells (bs X) 27))
  have rr := row_range R2.out (Below.refl _ _) R2.out.lt
  clear hb2 R1 HB1 HB2
  go_wp2_with (first | (refine wpList_store_row rfl 27 _ _ rfl w2.heap.size (bs X) rfl rfl 27 _ (Row.fresh _ _ _) (by rw [size_bs, HXL.out]; exact size_blk) (by rw [size_bs, size_bs, length_blk, HXL.out]) (one_bs _) ?_; rw [World.setRow_alloc_new]) | (refine wpList_load_mid rfl 27 _ rfl w2.heap.size 0 rfl (bs X).toList _ rr Try.underlying27 rfl (by rw [len_bs, HXL.out]; exact size_blk) ?_))
  obtain ⟨g2, hg2⟩ : ∃ g2, w2.heap.size = g2 := ⟨_, rfl⟩
  rw [hg2] at R2
  rw [hg2]
  clear hg2 rr
  generalize w2.alloc (.cells (bs X) 27) = W2 at *
  refine (HC2.out W2).mono ?_
  rintro e w3 ⟨rfl, hb3⟩
  have HB3 := Lib.hid (HBB2.out.trans (hb3.mono HBB2.out.size))
  have R1c := Lib.hid ((R1b.out.call hb3).alloc (.cells (labCells L) 25))
  have R2b := Lib.hid ((R2.out.call hb3).alloc (.cells (labCells L) 25))
  have R3 := Lib.hid (Row.fresh w3 25 (labCells L))
  have HBB3 := Lib.hid (HB3.out.alloc HB3.out.size (.cells (labCells L) 25))
  clear hb3 R1b R2 HBB2 HB3
  go_wp2_with (first | (refine wpList_store_row rfl 25 _ _ rfl w3.heap.size (labCells L) rfl rfl 25 _ (Row.fresh _ _ _) size_lab rfl (one_lab _) ?_; rw [World.setRow_alloc_new]))
  obtain ⟨g3, hg3⟩ : ∃ g3, w3.heap.size = g3 := ⟨_, rfl⟩
  rw [hg3] at R3
  rw [hg3]
  clear hg3
  generalize w3.alloc (.cells (labCells L) 25) = W3 at *
  refine (HC3.out W3).mono ?_
  rintro e w4 ⟨rfl, hb4⟩
  have HB4 := Lib.hid (HBB3.out.trans (hb4.mono HBB3.out.size))
  have R1d := Lib.hid ((R1c.out.call hb4).alloc (.cells (labCells lab0) 25))
  have R2c := Lib.hid ((R2b.out.call hb4).alloc (.cells (labCells lab0) 25))
  have R3b := Lib.hid ((R3.out.call hb4).alloc (.cells (labCells lab0) 25))
  have R4 := Lib.hid (Row.fresh w4 25 (labCells lab0))
  have HBB4 := Lib.hid (HB4.out.alloc HB4.out.size (.cells (labCells lab0) 25))
  have c1 := row_at_bs' R2c.out (i := 0) (by rw [HXL.out]; decide) HF.out.1
  have c2 := row_at_bs' R2c.out (i := 1) (by rw [HXL.out]; decide) HF.out.2.1
  have c3 := row_at_bs' R2c.out (i := 2) (by rw [HXL.out]; decide) HF.out.2.2.1
  have c4 := row_at_bs' R2c.out (i := 16) (by rw [HXL.out]; decide) HF.out.2.2.2
  have l1 := R1d.out
  have l3 := R3b.out
  have l5 := R4.out
  have q1 := eql_lab L L (w4.alloc (.cells (labCells lab0) 25))
  have q2 := eql_lab lab0 lab0 (w4.alloc (.cells (labCells lab0) 25))
  rw [decide_eq_true rfl] at q1 q2
  clear hb4 R1c R2b R3 HBB3 HB4 R1d R2c R3b R4
  go_wp2_with (first | (refine wpList_store_row rfl 25 _ _ rfl w4.heap.size (labCells lab0) rfl rfl 25 _ (Row.fresh _ _ _) size_lab rfl (one_lab _) ?_; rw [World.setRow_alloc_new]) | (refine wpList_guarded (by rfl) (fun K hK => ?_); refine wp_load_row 25 _ rfl g1 rfl 25 (labCells L) (0, 0) _ l1 Try.underlying25 rfl size_lab (hK _ _ ?_)) | (refine wpList_guarded (by rfl) (fun K hK => ?_); refine wp_load_row 25 _ rfl g3 rfl 25 (labCells L) (0, 0) _ l3 Try.underlying25 rfl size_lab (hK _ _ ?_)) | (refine wpList_guarded (by rfl) (fun K hK => ?_); refine wp_load_row 25 _ rfl w4.heap.size rfl 25 (labCells lab0) (0, 0) _ l5 Try.underlying25 rfl size_lab (hK _ _ ?_)))
  refine (HC4.out _).mono ?_
  rintro e w5 ⟨rfl, hb5⟩
  have HB5 := Lib.hid (HBB4.out.trans (hb5.mono HBB4.out.size))
  clear hb5 q1 q2 l1 l3 l5 c1 c2 c3 c4
  go_wp2_with fail
  refine (HC5.out _).mono ?_
  rintro e w6 ⟨rfl, hb6⟩
  have HB6 := Lib.hid (HB5.out.trans (hb6.mono HB5.out.size))
  clear hb6
  go_wp2_with fail
  have hP : PutsAt (w6.alloc (.cells ([(3, blk 0#8), (12, blk 0#8)].map pcell).flatten.toArray 50)) (.slice (some ⟨w6.heap.size, 0, none⟩) 2 2) [(3, blk 0#8), (12, blk 0#8)] := puts_row (l := [(3, blk 0#8), (12, blk 0#8)]) (Row.fresh _ _ _) (Nat.le_refl _) (by decide)
  refine (HC6.out _ _ hP).mono ?_
  rintro e w7 ⟨rfl, hb7⟩
  have HB7 := Lib.hid ((HB6.out.alloc HB6.out.size (.cells ([(3, blk 0#8), (12, blk 0#8)].map pcell).flatten.toArray 50)).trans (hb7.mono (HB6.out.alloc HB6.out.size _).size))
  clear hP hb7
  go_wp2_with fail
  go_ret
  exact ⟨rfl, HB7.out⟩
end Go.Proofs.Ytmghacgifokbhaa
