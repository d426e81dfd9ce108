/- What the statements of seal need to know of the program's seal; the example of its statements. -/
import Derived.Test.YtmfhlgmgfflbkaaSealRefD
import Derived.Test.YtmfhlgmgfflbkaaCrcMore
namespace Go.Proofs.Ytmfhlgmgfflbkaa
open Go Go.RowKit
structure SealOps where
  enc : ∀ (m : BitVec 8) (q : List (BitVec 8)) (v : Value) (w : World), Item w v q → Calls Try.prog 7 #[.int .u8 (bd m), v] w fun e w' => e = .returned (.tuple #[.agg (bs (encB m q)), .int .i64 (encE m q)]) ∧ Below w.heap.size w w'
  dec : ∀ (b : List (BitVec 8)) (w : World), b.length = 32 → Calls Try.prog 9 #[.agg (bs b)] w fun e w' => e = .returned (.tuple #[.agg (bs (decR b)), .int .i64 (decE b)]) ∧ Below w.heap.size w w'
theorem size_sec : (Try.prog.info? 33).map (·.size) = some 30 := by kernel_rfl
theorem item_nil (w : World) : Item w (.slice none 0 0) [] := ⟨none, 0, rfl, slice_nil w, fun _ => rfl, Nat.zero_le _⟩
theorem row_at_bs {w : World} {g : Nat} {t : TypeId} {q : List (BitVec 8)} (h : Row w g t (bs q)) {i : Nat} {x : Int} (hi : i < q.length) (hx : bd (q.getD i 0#8) = x) : w.cell? ⟨g, i, none⟩ = some (.int .u8 x) := by
  rw [← hx]; exact h.get (get_bs q i hi)
theorem row_set_bs {w : World} {g k : Nat} {t : TypeId} {q : List (BitVec 8)} (h : Row w g t (bs q)) (x : BitVec 8) : Row (w.setCell ⟨g, k, none⟩ (.int .u8 (bd x))) g t (bs (q.set k x)) := by
  have := h.put k (.int .u8 (bd x))
  rwa [show (bs q).setIfInBounds k (.int .u8 (bd x)) = bs (q.set k x) by simp [bs, List.map_set]] at this
theorem seal_ex : (encB 7#8 [1#8, 2#8]).length = 32 ∧ bd ((encB 7#8 [1#8, 2#8]).getD 0 0#8) = 7 ∧ bd ((encB 7#8 [1#8, 2#8]).getD 2 0#8) = 2 ∧ bd ((encB 7#8 [1#8, 2#8]).getD 3 0#8) = 0 ∧ encE 7#8 [1#8, 2#8] = 0 ∧ decE (encB 7#8 [1#8, 2#8]) = 0 ∧
    bd ((decR (encB 7#8 [1#8, 2#8])).getD 0 0#8) = 7 ∧ bd ((decR (encB 7#8 [1#8, 2#8])).getD 2 0#8) = 2 ∧ decE (blk 0#8) = 11 ∧ encE 0#8 [] = 1 := by decide +kernel
set_option maxHeartbeats 1600000 in
theorem swakes_any (D : SealOps) (w : World) : Calls Try.prog 6 #[] w fun e w' => e = .returned (.bool true) ∧ Below w.heap.size w w' := by
  obtain ⟨x1, x2, x3, x4, x5, x6, x7, x8, x9, x10⟩ := seal_ex
  have hz := zeros_blk
  have C1 : Calls Try.prog 7 #[.int .u8 7, .slice (some ⟨w.heap.size, 0, none⟩) 2 2] (w.alloc (.cells #[.int .u8 1, .int .u8 2] 5)) fun e w' => e = .returned (.tuple #[.agg (bs (encB 7#8 [1#8, 2#8])), .int .i64 (encE 7#8 [1#8, 2#8])]) ∧ Below (w.alloc (.cells #[.int .u8 1, .int .u8 2] 5)).heap.size (w.alloc (.cells #[.int .u8 1, .int .u8 2] 5)) w' :=
    D.enc 7#8 [1#8, 2#8] _ _ (item_row (Row.fresh w 5 (bs [1#8, 2#8])) (c := 2) (Nat.le_refl _) (by simp [maxLen]))
  have HB0 := Lib.hid ((Below.refl w.heap.size w).alloc (Nat.le_refl _) (.cells #[.int .u8 1, .int .u8 2] 5))
  have C2 := fun w => D.dec (encB 7#8 [1#8, 2#8]) w x1
  have C3 := fun w => D.dec (blk 0#8) w (length_blk _)
  have C4 := fun w => D.enc 0#8 [] (.slice none 0 0) w (item_nil w)
  have hRl : (decR (encB 7#8 [1#8, 2#8])).length = 30 := length_decR x1
  have hR0 : (decR (blk 0#8)).length = 30 := length_decR (length_blk _)
  have hE0 : (encB 0#8 []).length = 32 := length_encB _ _
  rw [x6] at C2
  rw [x9] at C3
  rw [x10] at C4
  rw [x5] at C1
  clear x5 x6 x9 x10
  generalize encB 0#8 [] = E0 at *
  generalize decR (blk 0#8) = R0 at *
  generalize decR (encB 7#8 [1#8, 2#8]) = R at *
  generalize encB 7#8 [1#8, 2#8] = X at *
  have HC2 := Lib.hid C2
  have HC3 := Lib.hid C3
  have HC4 : Hid (∀ w, Calls Try.prog 7 #[.int .u8 0, .slice none 0 0] w fun e w' => e = .returned (.tuple #[.agg (bs E0), .int .i64 1]) ∧ Below w.heap.size w w') := Lib.hid C4
  have HX := Lib.hid x1
  have HR := Lib.hid hRl
  have HR0 := Lib.hid hR0
  have HE0 := Lib.hid hE0
  have HF := Lib.hid (And.intro x2 (And.intro x3 (And.intro x4 (And.intro x7 x8))))
  clear C2 C3 C4 x1 x2 x3 x4 x7 x8 hRl hR0 hE0
  go_enter Try.func6, Try.ntmps6
  go_wp2_with fail
  refine C1.mono ?_
  rintro e w1 ⟨rfl, hb1⟩
  have HB1 := Lib.hid (HB0.out.trans (hb1.mono HB0.out.size))
  have R1 := Lib.hid (Row.fresh w1 24 (bs X))
  have rr1 := row_range R1.out (Below.refl _ _) R1.out.lt
  clear C1 hb1 HB0
  go_wp2_with (first | (refine wpList_store_row rfl 24 _ _ rfl w1.heap.size (bs X) rfl rfl 24 _ (Row.fresh _ _ _) (by rw [size_bs, HX.out]; exact size_blk) (by rw [size_bs, size_bs, length_blk, HX.out]) (one_bs _) ?_; rw [World.setRow_alloc_new]) | (refine wpList_load_mid rfl 24 _ rfl w1.heap.size 0 rfl (bs X).toList _ rr1 Try.underlying24 rfl (by rw [len_bs, HX.out]; exact size_blk) ?_))
  obtain ⟨g1, hg1⟩ : ∃ g1, w1.heap.size = g1 := ⟨_, rfl⟩
  have HBB1 := Lib.hid (HB1.out.alloc HB1.out.size (.cells (bs X) 24))
  rw [hg1] at R1
  rw [hg1]
  clear rr1 hg1 HB1
  generalize w1.alloc (.cells (bs X) 24) = W1 at *
  refine (HC2.out W1).mono ?_
  rintro e w2 ⟨rfl, hb2⟩
  have HB2 := Lib.hid (HBB1.out.trans (hb2.mono HBB1.out.size))
  have R1b := Lib.hid (R1.out.call hb2)
  clear R1 HBB1 hb2
  go_wp2_with (first | (refine wpList_store_row rfl 33 _ _ rfl w2.heap.size (bs R) rfl rfl 33 _ (Row.fresh _ _ _) (by rw [size_bs, HR.out]; exact size_sec) (by rw [size_bs, HR.out]; rfl) (one_bs _) ?_; rw [World.setRow_alloc_new]))
  have R2 := Lib.hid (Row.fresh w2 33 (bs R))
  have R1c := Lib.hid (R1b.out.alloc (.cells (bs R) 33))
  have HBB2 := Lib.hid (HB2.out.alloc HB2.out.size (.cells (bs R) 33))
  obtain ⟨g2, hg2⟩ : ∃ g2, w2.heap.size = g2 := ⟨_, rfl⟩
  rw [hg2] at R2
  rw [hg2]
  clear hg2 HB2 R1b
  generalize w2.alloc (.cells (bs R) 33) = W2 at *
  refine (HC3.out W2).mono ?_
  rintro e w3 ⟨rfl, hb3⟩
  have HB3 := Lib.hid (HBB2.out.trans (hb3.mono HBB2.out.size))
  have R1d := Lib.hid (R1c.out.call hb3)
  have R2b := Lib.hid (R2.out.call hb3)
  clear R1c R2 HBB2 hb3
  go_wp2_with (first | (refine wpList_store_row rfl 33 _ _ rfl w3.heap.size (bs R0) rfl rfl 33 _ (Row.fresh _ _ _) (by rw [size_bs, HR0.out]; exact size_sec) (by rw [size_bs, HR0.out]; rfl) (one_bs _) ?_; rw [World.setRow_alloc_new]))
  have R1e := Lib.hid (R1d.out.alloc (.cells (bs R0) 33))
  have R2c := Lib.hid (R2b.out.alloc (.cells (bs R0) 33))
  have HBB3 := Lib.hid (HB3.out.alloc HB3.out.size (.cells (bs R0) 33))
  clear R1d R2b HB3
  generalize w3.alloc (.cells (bs R0) 33) = W3 at *
  refine (HC4.out W3).mono ?_
  rintro e w4 ⟨rfl, hb4⟩
  have HB4 := Lib.hid (HBB3.out.trans (hb4.mono HBB3.out.size))
  have R1f := (R1e.out.call hb4).alloc (.cells (bs E0) 24)
  have R2d := (R2c.out.call hb4).alloc (.cells (bs E0) 24)
  have HBB4 := Lib.hid (HB4.out.alloc HB4.out.size (.cells (bs E0) 24))
  have c1 := row_at_bs R1f (i := 0) (by rw [HX.out]; omega) HF.out.1
  have c2 := row_at_bs R1f (i := 2) (by rw [HX.out]; omega) HF.out.2.1
  have c3 := row_at_bs R1f (i := 3) (by rw [HX.out]; omega) HF.out.2.2.1
  have c4 := row_at_bs R2d (i := 0) (by rw [HR.out]; omega) HF.out.2.2.2.1
  have c5 := row_at_bs R2d (i := 2) (by rw [HR.out]; omega) HF.out.2.2.2.2
  clear R1e R2c HBB3 hb4 R1f R2d HB4
  go_wp2_with (first | (refine wpList_store_row rfl 24 _ _ rfl w4.heap.size (bs E0) rfl rfl 24 _ (Row.fresh _ _ _) (by rw [size_bs, HE0.out]; exact size_blk) (by rw [size_bs, size_bs, length_blk, HE0.out]) (one_bs _) ?_; rw [World.setRow_alloc_new]))
  go_ret
  exact ⟨rfl, HBB4.out⟩
end Go.Proofs.Ytmfhlgmgfflbkaa
