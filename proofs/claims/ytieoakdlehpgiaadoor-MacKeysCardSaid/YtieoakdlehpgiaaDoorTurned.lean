/- A block, each byte turned. -/
import Derived.Test.YtieoakdlehpgiaaDoorMacSpec
import Derived.Test.YtieoakdlehpgiaaDoorTurn
import Derived.Test.YtieoakdlehpgiaaDoorDig
namespace Go.Proofs.YtieoakdlehpgiaaDoor
open Go Go.RowKit
attribute [local go_sem] xor_bd
set_option maxHeartbeats 400000 in
theorem turned_any (l : List (BitVec 8)) (x : BitVec 8) (hl : l.length = 64) (w : World) :
    Calls Tryd.prog 16 #[.agg (bs l), .int .u8 (bd x)] w fun e w' => e = .returned (.agg (bs (turnBy x l))) ∧ Below w.heap.size w w' := by
  have HL := Lib.hid hl
  clear hl
  go_enter Tryd.func16, Tryd.ntmps16
  go_wp2_with fail
  go_loopw [5, 6] (fun _ i wr => ∃ k : Nat, k ≤ 64 ∧ i = .int .i64 k ∧ Row wr w.heap.size 31 (bs (tpart x l k)) ∧ Row wr (w.heap.size + 1) 31 (bs (zer 64)) ∧ Below w.heap.size w wr) (fun _ i _ => 64 - (intOf i).toNat)
  case atStart => exact ⟨0, by omega, rfl, by rw [tpart_zero]; exact (Row.fresh _ _ _).alloc _, row2b _ _ _ _, ((Below.refl _ _).alloc (Nat.le_refl _) _).alloc (by simp) _⟩
  case round =>
    obtain ⟨k, hk, rfl, r1, r2, hb⟩ := hrel
    by_cases hlt : k < 64
    · have c0 := r1.get (get_bs (tpart x l k) k (by rw [length_tpart, HL.out]; exact hlt))
      rw [tpart_get x l k (by rw [HL.out]; exact hlt)] at c0
      have f0 := r1.free k
      go_wp2
      go_roundw
      case rel =>
        refine ⟨k + 1, by omega, by go_num, ?_, r2.far (by simp) _, hb.setCell (by simp) _⟩
        have h1 := r1.put k (.int .u8 (bd (l.getD k 0 ^^^ x)))
        rw [set_bs, tpart_set x l k (by rw [HL.out]; exact hlt)] at h1
        exact h1
      case measure => simp [intOf]; omega
    · obtain rfl : k = 64 := by omega
      have e : tpart x l 64 = turnBy x l := by rw [← HL.out]; exact tpart_all x l
      rw [e] at r1
      have HS : Hid ((Tryd.prog.info? 31).map (·.size) = some (bs (turnBy x l)).size) := Lib.hid (by rw [size_bs, length_turnBy, HL.out]; exact size_b)
      clear hlt hk e
      go_wp2_with (first | (refine wpList_load_row rfl 31 _ rfl w.heap.size rfl 31 (bs (turnBy x l)) (0, 0) _ r1 Tryd.underlying31 rfl HS.out ?_) | (refine wpList_store_row rfl 31 _ _ rfl (w.heap.size + 1) (bs (turnBy x l)) rfl rfl 31 _ r2 HS.out (by rw [size_bs, size_bs, length_turnBy, HL.out]; rfl) (one_bs _) ?_))
      exact bodyPost_ret (v := .agg (bs (turnBy x l))) (results_cell_row Tryd.results16 _ _ (w.heap.size + 1) 31 (bs (turnBy x l)) (0, 0) _ rfl (r2.setRow _) Tryd.underlying31 rfl HS.out) rfl ⟨rfl, below_setRow hb (by omega) _⟩
end Go.Proofs.YtieoakdlehpgiaaDoor
