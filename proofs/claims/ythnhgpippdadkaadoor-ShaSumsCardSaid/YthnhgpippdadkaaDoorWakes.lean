import Derived.Test.YthnhgpippdadkaaDoorSum
import Derived.Test.YthnhgpippdadkaaDoorEval
import Derived.Lib.SlBytesConst
namespace Go.Proofs.YthnhgpippdadkaaDoor
open Go Go.RowKit
theorem pad3 (w : World) : Calls Tryd.prog 15 #[.int .u64 3] w fun e w' => e = .returned (.slice (some ⟨w.heap.size, 0, none⟩) 61 61) ∧ Row w' w.heap.size 5 (bs (pad 3)) ∧ Below w.heap.size w w' := pad_any 3 (by omega) w
theorem index_h0 (w : World) : (Instr.index 33 (.agg (ws h0)) (.int .i64 0)).run Tryd.prog w = .ok (.int .u32 1779033703) w := by kernel_rfl
theorem bytes_slice {w : World} {g c : Nat} {q : List (BitVec 8)} {t : TypeId} {fr : Nat × Nat} (hg : w.heap[g]? = some (.cells (bs q) t fr)) (hc : q.length ≤ c) : Slice w (.slice (some ⟨g, 0, none⟩) q.length c) q := by
  refine ⟨_, c, rfl, hc, fun _ => ⟨g, 0, rfl, ?_, fun j x hx => ?_⟩⟩
  · by_cases hl : g < w.heap.size
    · exact hl
    · rw [Array.getElem?_eq_none (by omega)] at hg; cases hg
  · have hj := (List.getElem?_eq_some_iff.1 hx).1
    rw [Nat.zero_add, cell_of_row w g j _ _ _ hg, get_bs q j hj, List.getD_eq_getElem?_getD, hx]; rfl
theorem abc_parts (w : World) : Parts (((w.alloc (.cells #[.int .u8 97] 5 (1, 2))).alloc (.cells #[.int .u8 98, .int .u8 99] 5 (2, 3))).alloc (.cells #[.slice (some ⟨w.heap.size, 0, none⟩) 1 1, .slice (some ⟨w.heap.size + 1, 0, none⟩) 2 2] 30)) (.slice (some ⟨w.heap.size + 1 + 1, 0, none⟩) 2 2) [[0x61#8], [0x62#8, 0x63#8]] := by
  have r := row3c w 30 #[.slice (some ⟨w.heap.size, 0, none⟩) 1 1, .slice (some ⟨w.heap.size + 1, 0, none⟩) 2 2] (.cells #[.int .u8 97] 5 (1, 2)) (.cells #[.int .u8 98, .int .u8 99] 5 (2, 3))
  have ha : (((w.alloc (.cells #[.int .u8 97] 5 (1, 2))).alloc (.cells #[.int .u8 98, .int .u8 99] 5 (2, 3))).alloc (.cells #[.slice (some ⟨w.heap.size, 0, none⟩) 1 1, .slice (some ⟨w.heap.size + 1, 0, none⟩) 2 2] 30)).heap[w.heap.size]? = some (.cells (bs [0x61#8]) 5 (1, 2)) := by
    rw [Below.heap_alloc _ _ _ (by simp; omega), Below.heap_alloc _ _ _ (by simp), heap_alloc_new]; rfl
  have hb : (((w.alloc (.cells #[.int .u8 97] 5 (1, 2))).alloc (.cells #[.int .u8 98, .int .u8 99] 5 (2, 3))).alloc (.cells #[.slice (some ⟨w.heap.size, 0, none⟩) 1 1, .slice (some ⟨w.heap.size + 1, 0, none⟩) 2 2] 30)).heap[w.heap.size + 1]? = some (.cells (bs [0x62#8, 0x63#8]) 5 (2, 3)) := by
    rw [Below.heap_alloc _ _ _ (by simp), heap_alloc2_new]; rfl
  refine ⟨_, 2, rfl, fun _ => ⟨w.heap.size + 1 + 1, 0, rfl, r.lt, fun k q hq => ?_⟩⟩
  match k, hq with
  | 0, hq => obtain rfl : [0x61#8] = q := by simpa using hq
             exact ⟨_, r.get rfl, bytes_slice ha (by simp)⟩
  | 1, hq => obtain rfl : [0x62#8, 0x63#8] = q := by simpa using hq
             exact ⟨_, r.get rfl, bytes_slice hb (by simp)⟩
theorem conv2 (w : World) (o : Obj) (C : Array Value) (n c : Nat) : (convert 30 30 (.slice (some ⟨w.heap.size + 1, 0, none⟩) n c)).run Tryd.prog ((w.alloc o).alloc (.cells C 5)) = .ok (.slice (some ⟨w.heap.size + 1, 0, none⟩) n c) ((w.alloc o).alloc (.cells C 5 (C.size, C.size + 1))) := by
  have h := Lib.run_convert_bytes_const (P := Tryd.prog) (w.alloc o) 30 5 C n c Tryd.underlying30 Tryd.underlying5
  rw [show (w.alloc o).heap.size = w.heap.size + 1 by simp] at h
  exact h
set_option maxHeartbeats 400000 in
theorem wakes_any (w : World) (hT : Tab w) : Calls Tryd.prog 8 #[] w fun e w' => e = .returned (.bool true) ∧ Below w.heap.size w w' := by
  have HT := Lib.hid hT
  clear hT
  have hcv := fun (W : World) (C : Array Value) (n c : Nat) => Lib.run_convert_bytes_const (P := Tryd.prog) W 30 5 C n c Tryd.underlying30 Tryd.underlying5
  have hix := index_h0
  have hc2 := conv2
  go_enter Tryd.func8, Tryd.ntmps8
  go_wp2_with fail
  refine (sum_any [[0x61#8], [0x62#8, 0x63#8]] _ _ (HT.out.below (below3 w _ _ _) HT.out.pos) (abc_parts w) (by simp) (by simp)).mono ?_
  rintro e w1 ⟨rfl, hb1⟩
  rw [show sha ([[0x61#8], [0x62#8, 0x63#8]] : List (List (BitVec 8))).flatten = abcDig from sha_abc]
  have hb : Below w.heap.size w w1 := (below3 w _ _ _).trans (hb1.mono (by simp; omega))
  clear hb1
  go_wp2_with (first | (refine wpList_store_row rfl 27 _ _ rfl w1.heap.size (bs abcDig) rfl rfl 27 _ (Row.fresh _ _ _) size_d (by kernel_rfl) (one_bs _) ?_; rw [World.setRow_alloc_new]))
  have hb1 := (Below.refl w1.heap.size w1).alloc (Nat.le_refl _) (.cells (bs abcDig) 27)
  have ra := Row.fresh w1 27 (bs abcDig)
  refine (sum_any [] _ _ (HT.out.below (hb.trans (hb1.mono hb.size)) HT.out.pos) ⟨none, 0, rfl, fun h => absurd rfl h⟩ (by simp) (by simp)).mono ?_
  rintro e w2 ⟨rfl, hb2⟩
  rw [show sha ([] : List (List (BitVec 8))).flatten = nilDig from sha_nil]
  have ra2 := ra.call hb2
  have hbb : Below w.heap.size w w2 := (hb.trans (hb1.mono hb.size)).trans (hb2.mono (Nat.le_trans hb.size (by simp)))
  clear hb1 hb2 hb ra hcv hc2
  go_wp2_with (first | (refine wpList_store_row rfl 27 _ _ rfl w2.heap.size (bs nilDig) rfl rfl 27 _ (Row.fresh _ _ _) size_d (by kernel_rfl) (one_bs _) ?_; rw [World.setRow_alloc_new]))
  refine (pad3 _).mono ?_
  rintro e w3 ⟨rfl, rc, hb3⟩
  have ra3 := (ra2.alloc (.cells (bs nilDig) 27)).call hb3
  have rb3 := (Row.fresh w2 27 (bs nilDig)).call hb3
  have hb4 : Below w.heap.size w w3 := (hbb.alloc hbb.size _).trans (hb3.mono (Nat.le_trans hbb.size (by simp)))
  clear hb3 hbb ra2
  have a0 : w3.cell? ⟨w1.heap.size, 0, none⟩ = some (.int .u8 186) := ra3.get rfl
  have a1 : w3.cell? ⟨w1.heap.size, 1, none⟩ = some (.int .u8 120) := ra3.get rfl
  have a2 : w3.cell? ⟨w1.heap.size, 2, none⟩ = some (.int .u8 22) := ra3.get rfl
  have a3 : w3.cell? ⟨w1.heap.size, 3, none⟩ = some (.int .u8 191) := ra3.get rfl
  have a31 : w3.cell? ⟨w1.heap.size, 31, none⟩ = some (.int .u8 173) := ra3.get rfl
  have b0 : w3.cell? ⟨w2.heap.size, 0, none⟩ = some (.int .u8 227) := rb3.get rfl
  have b1 : w3.cell? ⟨w2.heap.size, 1, none⟩ = some (.int .u8 176) := rb3.get rfl
  have b31 : w3.cell? ⟨w2.heap.size, 31, none⟩ = some (.int .u8 85) := rb3.get rfl
  have p0 : w3.cell? ⟨w2.heap.size + 1, 0, none⟩ = some (.int .u8 128) := by have := rc.get (i := 0) (v := .int .u8 128) rfl; simpa using this
  have p60 : w3.cell? ⟨w2.heap.size + 1, 60, none⟩ = some (.int .u8 24) := by have := rc.get (i := 60) (v := .int .u8 24) rfl; simpa using this
  clear ra3 rb3 rc
  go_wp2_with fail
  refine (start_h0 _).mono ?_
  rintro e w4 ⟨rfl, hb5⟩
  have q0 := (hb5.cell (p := ⟨w2.heap.size + 1, 0, none⟩) (World.block_lt_of_cell? w3 _ p0)).trans p0
  have q60 := (hb5.cell (p := ⟨w2.heap.size + 1, 60, none⟩) (World.block_lt_of_cell? w3 _ p60)).trans p60
  have hb6 : Below w.heap.size w w4 := hb4.trans (hb5.mono hb4.size)
  clear a0 a1 a2 a3 a31 b0 b1 b31 p0 p60 hb4 hb5
  go_wp2_with fail
  go_ret
  exact ⟨rfl, hb6⟩
end Go.Proofs.YthnhgpippdadkaaDoor
