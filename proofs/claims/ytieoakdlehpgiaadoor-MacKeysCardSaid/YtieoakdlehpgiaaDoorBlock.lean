/- The key's block. -/
import Derived.Test.YtieoakdlehpgiaaDoorCopyB
import Derived.Test.YtieoakdlehpgiaaDoorMacSpec
import Derived.StillTailTactics
namespace Go.Proofs.YtieoakdlehpgiaaDoor
open Go Go.RowKit
theorem blockOf_long (key : List (BitVec 8)) (h : 64 < key.length) : sha key ++ (zer 64).drop (sha key).length = blockOf key := by
  rw [blockOf, if_pos h, length_sha, zer, zer, List.drop_replicate]
theorem blockOf_short (key : List (BitVec 8)) (h : ¬ 64 < key.length) : key ++ (zer 64).drop key.length = blockOf key := by
  rw [blockOf, if_neg h, zer, zer, List.drop_replicate]
set_option maxHeartbeats 800000 in
theorem block_any (key : List (BitVec 8)) (v : Value) (w : World) (hT : Tab w) (hv : Slice w v key) (hk : key.length < 2147483648) :
    Calls Tryd.prog 11 #[v] w fun e w' => e = .returned (.agg (bs (blockOf key))) ∧ Below w.heap.size w w' := by
  have HT := Lib.hid hT
  have HV := Lib.hid hv
  obtain ⟨A, c, rfl, _, _⟩ := hv
  clear hT
  have HS : Hid ((Tryd.prog.info? 31).map (·.size) = some (bs (blockOf key)).size) := Lib.hid (by rw [size_bs, length_blockOf]; exact size_b)
  have HL : Hid ((bs (blockOf key)).size = 64) := Lib.hid (by rw [size_bs, length_blockOf])
  have ra : Row ((w.alloc (.cells (bs (zer 64)) 31)).alloc (.cells (bs (zer 64)) 31)) w.heap.size 31 (bs (zer 64)) := (Row.fresh _ _ _).alloc _
  have rb : Row ((w.alloc (.cells (bs (zer 64)) 31)).alloc (.cells (bs (zer 64)) 31)) (w.heap.size + 1) 31 (bs (zer 64)) := row2b _ _ _ _
  have hb : Below w.heap.size w ((w.alloc (.cells (bs (zer 64)) 31)).alloc (.cells (bs (zer 64)) 31)) := ((Below.refl _ _).alloc (Nat.le_refl _) _).alloc (by simp) _
  by_cases hlong : 64 < key.length
  · have HB := Lib.hid (blockOf_long key hlong)
    go_enter Tryd.func11, Tryd.ntmps11
    go_wp2_with fail
    change Calls _ _ _ (((w.alloc (.cells (bs (zer 64)) 31)).alloc (.cells (bs (zer 64)) 31)).alloc _) _
    have hsz : ((w.alloc (.cells (bs (zer 64)) 31)).alloc (.cells (bs (zer 64)) 31)).heap.size = w.heap.size + 1 + 1 := by simp
    generalize (w.alloc (.cells (bs (zer 64)) 31)).alloc (.cells (bs (zer 64)) 31) = w1 at *
    have hp := parts1 (HV.out.below hb (Nat.le_refl _))
    rw [hsz] at hp
    refine (sum_any [key] _ _ (HT.out.below (hb.alloc hb.size _) HT.out.pos) hp (by simp) (by simp; omega)).mono ?_
    rintro e w2 ⟨rfl, hb2⟩
    rw [show ([key] : List (List (BitVec 8))).flatten = key by simp]
    have ra2 := (ra.alloc _).call hb2
    have rb2 := (rb.alloc _).call hb2
    have hb02 : Below w.heap.size w w2 := (hb.alloc hb.size _).trans (hb2.mono (Nat.le_trans hb.size (by simp)))
    have HD : Hid ((sha key).length = 32) := Lib.hid (length_sha key)
    clear ra rb hb hb2 hp hsz
    generalize sha key = D at *
    go_wp2_with (first | (refine wpList_store_row rfl 27 _ _ rfl w2.heap.size (bs D) rfl rfl 27 _ (Row.fresh _ _ _) (by rw [size_bs, HD.out]; exact size_d) (by rw [size_bs, HD.out]; rfl) (one_bs _) ?_; rw [World.setRow_alloc_new]))
    have ra3 := ra2.alloc (.cells (bs D) 27)
    have rb3 := rb2.alloc (.cells (bs D) 27)
    have hb3 := hb02.alloc hb02.size (.cells (bs D) 27)
    have rd : Slice (w2.alloc (.cells (bs D) 27)) (.slice (some ⟨w2.heap.size, 0, none⟩) 32 32) D := by
      have h := row_slice (Row.fresh w2 27 (bs D)) (c := 32) (by rw [HD.out]; exact Nat.le_refl _)
      rw [HD.out] at h; exact h
    clear ra2 rb2 hb02
    generalize w2.alloc (.cells (bs D) 27) = w3 at *
    go_still_tail 2, (by kernel_rfl)
    change wpList _ _ _ _ _ w3.drew
    refine wpList_copy_bytes rfl _ _ rfl (w.heap.size + 1) 64 64 rfl (.slice (some ⟨w2.heap.size, 0, none⟩) 32 32) rfl D (zer 64) rd 31 rb3.drew rfl (by rw [HD.out]; omega) ?_
    intro w4 rb4 hg4
    rw [HB.out] at rb4
    have ra4 := ra3.drew.only hg4 (by omega)
    have hb4 := hb3.drew.trans (only_below hg4 (by omega) hb3.size)
    clear rd ra3 rb3 hb3 hg4
    go_wp2_with (first | (refine wpList_load_row rfl 31 _ rfl (w.heap.size + 1) rfl 31 (bs (blockOf key)) (0, 0) _ rb4 Tryd.underlying31 rfl HS.out ?_) | (refine wpList_store_row rfl 31 _ _ rfl w.heap.size (bs (blockOf key)) rfl rfl 31 _ ra4 HS.out (by rw [HL.out, size_bs]; rfl) (one_bs _) ?_))
    exact bodyPost_ret (v := .agg (bs (blockOf key))) (results_cell_row Tryd.results11 _ _ w.heap.size 31 (bs (blockOf key)) (0, 0) _ rfl (ra4.setRow _) Tryd.underlying31 rfl HS.out) rfl ⟨rfl, below_setRow hb4 (Nat.le_refl _) _⟩
  · have HB := Lib.hid (blockOf_short key hlong)
    have d0 : decide ((64 : Int) < (key.length : Int)) = false := by simp; omega
    have hv1 := HV.out.below hb (Nat.le_refl _)
    go_enter Tryd.func11, Tryd.ntmps11
    go_wp2_with (first | (refine wpList_copy_bytes rfl _ _ rfl (w.heap.size + 1) 64 64 rfl (.slice A key.length c) rfl key (zer 64) hv1 31 rb rfl (by omega) ?_; intro w4 rb4 hg4; rw [HB.out] at rb4; have ra4 := ra.only hg4 (by omega); have hb4 := hb.trans (only_below hg4 (by omega) hb.size); clear ra rb hb hg4 hv1) | (refine wpList_load_row rfl 31 _ rfl (w.heap.size + 1) rfl 31 (bs (blockOf key)) (0, 0) _ rb4 Tryd.underlying31 rfl HS.out ?_) | (refine wpList_store_row rfl 31 _ _ rfl w.heap.size (bs (blockOf key)) rfl rfl 31 _ ra4 HS.out (by rw [HL.out, size_bs]; rfl) (one_bs _) ?_))
    exact bodyPost_ret (v := .agg (bs (blockOf key))) (results_cell_row Tryd.results11 _ _ w.heap.size 31 (bs (blockOf key)) (0, 0) _ rfl (ra4.setRow _) Tryd.underlying31 rfl HS.out) rfl ⟨rfl, below_setRow hb4 (Nat.le_refl _) _⟩
end Go.Proofs.YtieoakdlehpgiaaDoor
