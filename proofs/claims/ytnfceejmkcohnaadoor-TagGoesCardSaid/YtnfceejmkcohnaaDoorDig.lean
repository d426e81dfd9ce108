import Derived.Test.YtnfceejmkcohnaaDoorTurn
import Derived.Test.YtnfceejmkcohnaaDoorSpec2
namespace Go.Proofs.YtnfceejmkcohnaaDoor
open Go Go.RowKit
attribute [local go_sem] low_wd low24_wd low16_wd low8_wd
theorem size_d : (Tryd.prog.info? 24).map (·.size) = some 32 := by kernel_rfl
theorem info_u32 : (Tryd.prog.info? 45).map (·.size) = some 1 := by kernel_rfl
theorem index_ws (h : List (BitVec 32)) (k : Nat) (hl : h.length = 8) (hk : k < 8) (w : World) : (Instr.index 46 (.agg (ws h)) (.int .i64 k)).run Tryd.prog w = .ok (.int .u32 (wd (h.getD k 0))) w := by
  obtain ⟨i, hi, hs⟩ := Option.map_eq_some_iff.1 info_u32
  have hg := get_ws h k (by omega)
  have e1 : (0 : Int) ≤ (k : Int) ∧ (k : Int) < ((8 : Nat) : Int) := by omega
  simp only [Instr.index, asIntOf, run_underlying Tryd.underlying46, Sem.run_bind, Sem.run_pure, Result.andThen_ok]
  rw [if_pos e1]
  simp [Go.part, isAgg, run_underlying Tryd.underlying45, sizeOf, typeInfo, hi, hs, hg]
theorem start_any (w : World) : Calls Tryd.prog 20 #[] w fun e w' => e = .returned (.agg (ws [0x6a09e667#32, 0xbb67ae85#32, 0x3c6ef372#32, 0xa54ff53a#32, 0x510e527f#32, 0x9b05688c#32, 0x1f83d9ab#32, 0x5be0cd19#32])) ∧ Below w.heap.size w w' := by
  go_enter Tryd.func20, Tryd.ntmps20
  go_wp2
  refine bodyPost_ret (v := .agg (ws [0x6a09e667#32, 0xbb67ae85#32, 0x3c6ef372#32, 0xa54ff53a#32, 0x510e527f#32, 0x9b05688c#32, 0x1f83d9ab#32, 0x5be0cd19#32])) ?_ rfl ⟨rfl, (Below.refl _ _).alloc (Nat.le_refl _) _⟩
  exact results_cell_row Tryd.results20 _ _ w.heap.size 46 (ws [0x6a09e667#32, 0xbb67ae85#32, 0x3c6ef372#32, 0xa54ff53a#32, 0x510e527f#32, 0x9b05688c#32, 0x1f83d9ab#32, 0x5be0cd19#32]) (0, 0) _ rfl (Row.fresh _ _ _) Tryd.underlying46 rfl size_h
set_option maxHeartbeats 400000 in
theorem dig_any (h : List (BitVec 32)) (hh : h.length = 8) (w : World) :
    Calls Tryd.prog 23 #[.agg (ws h)] w fun e w' => e = .returned (.agg (bs (dig h))) ∧ Below w.heap.size w w' := by
  have H33 : Hid ((Tryd.prog.info? 46).map (·.size) = some (ws h).size) := Lib.hid (by rw [size_ws, hh]; exact size_h)
  have HH := Lib.hid hh
  clear hh
  go_enter Tryd.func23, Tryd.ntmps23
  go_wp2_with (refine wpList_load_row rfl 46 _ rfl w.heap.size rfl 46 (ws h) (0, 0) _ (row3a w _ _ _ _) Tryd.underlying46 rfl H33.out ?_)
  go_loopw [7] (fun i wr => ∃ k : Nat, k ≤ 8 ∧ i = .int .i64 k ∧ Row wr (w.heap.size + 1) 24 (bs (zer 32)) ∧ Row wr (w.heap.size + 1 + 1) 24 (bs (digTo h k)) ∧ Below w.heap.size w wr) (fun i _ => 8 - (intOf i).toNat)
  case atStart => exact ⟨0, by omega, rfl, row3b w 24 (bs (zer 32)) _ _, by rw [digTo_zero]; exact row3c w 24 (bs (zer 32)) _ _, below3 _ _ _ _⟩
  case round =>
    obtain ⟨k, hk, rfl, hr1, hr2, hb⟩ := hrel
    by_cases hlt : k < 8
    · have ix := index_ws h k HH.out hlt
      have c0 := hr2.get (get_bs (digTo h k) (4 * k) (by rw [length_digTo h k HH.out hk]; omega))
      have c1 := hr2.get (get_bs (digTo h k) (4 * k + 1) (by rw [length_digTo h k HH.out hk]; omega))
      have c2 := hr2.get (get_bs (digTo h k) (4 * k + 2) (by rw [length_digTo h k HH.out hk]; omega))
      have c3 := hr2.get (get_bs (digTo h k) (4 * k + 3) (by rw [length_digTo h k HH.out hk]; omega))
      have f0 := hr2.free (4 * k)
      have f1 := hr2.free (4 * k + 1)
      have f2 := hr2.free (4 * k + 2)
      have f3 := hr2.free (4 * k + 3)
      go_wp2
      go_roundw
      case rel =>
        refine ⟨k + 1, by omega, by go_num, ?_, ?_, ?_⟩
        · exact (((hr1.far (by simp) _).far (by simp) _).far (by simp) _).far (by simp) _
        · have h1 := (((hr2.put (4 * k) (.int .u8 (bd ((h.getD k 0 >>> 24).setWidth 8)))).put (4 * k + 1) (.int .u8 (bd ((h.getD k 0 >>> 16).setWidth 8)))).put (4 * k + 2) (.int .u8 (bd ((h.getD k 0 >>> 8).setWidth 8)))).put (4 * k + 3) (.int .u8 (bd ((h.getD k 0).setWidth 8)))
          rw [set_bs, set_bs, set_bs, set_bs, digTo_set h k HH.out hlt] at h1
          exact h1
        · exact (((hb.setCell (by simp; omega) _).setCell (by simp; omega) _).setCell (by simp; omega) _).setCell (by simp; omega) _
      case measure => simp [intOf]; omega
    · obtain rfl : k = 8 := by omega
      rw [digTo_all h HH.out] at hr2
      have HS : Hid ((Tryd.prog.info? 24).map (·.size) = some (bs (dig h)).size) := Lib.hid (by rw [size_bs, length_dig, HH.out]; exact size_d)
      clear hlt hk
      go_wp2_with (first | (refine wpList_load_row rfl 24 _ rfl (w.heap.size + 1 + 1) rfl 24 (bs (dig h)) (0, 0) _ hr2 Tryd.underlying24 rfl HS.out ?_) | (refine wpList_store_row rfl 24 _ _ rfl (w.heap.size + 1) (bs (dig h)) rfl rfl 24 _ hr1 HS.out (by rw [size_bs, size_bs, length_dig, HH.out]; rfl) (one_bs _) ?_))
      exact bodyPost_ret (v := .agg (bs (dig h))) (results_cell_row Tryd.results23 _ _ (w.heap.size + 1) 24 (bs (dig h)) (0, 0) _ rfl (hr1.setRow _) Tryd.underlying24 rfl HS.out) rfl ⟨rfl, below_setRow hb (by omega) _⟩
end Go.Proofs.YtnfceejmkcohnaaDoor
