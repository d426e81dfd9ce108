import Derived.Test.YtnfceejmkcohnaaDoorSig
import Derived.Test.YtnfceejmkcohnaaDoorMem
import Derived.Deep.QuietTactic
import Derived.BigQuiet
import Derived.BigRegion
import Derived.WalkSmall
import Derived.OwnWalk
import Derived.Lib.Hide
import Derived.LoopTactic
import Derived.RegionTactic
import Derived.Deep.RegionWith
import Derived.Deep.RegionHeld3
namespace Go.Proofs.YtnfceejmkcohnaaDoor
open Go Go.RowKit
attribute [local go_sem] xor_wd and_wd or_wd add_wd shr_wd not_wd signed_u32 conv_bd shl24_wd shl16_wd shl8_wd
theorem size_w : (Tryd.prog.info? 58).map (·.size) = some 64 := by kernel_rfl
theorem i64_id (n : Int) (h0 : 0 ≤ n) (h1 : n < 9223372036854775808) : IntKind.i64.wrap n = n := by
  rw [IntKind.wrap_i64]; omega
/- the world behind the three allocations -/
theorem start {w : World} {l : List (BitVec 8)} {z : Array Value} (hz : z = ws (zeros 64)) :
    ∃ k : Nat, k ≤ 16 ∧ Value.int .i64 0 = .int .i64 k ∧ Row (((w.alloc (.cells (bs l) 48)).alloc (.cells z 58)).alloc (.cells z 58)) w.heap.size 48 (bs l) ∧ Row (((w.alloc (.cells (bs l) 48)).alloc (.cells z 58)).alloc (.cells z 58)) (w.heap.size + 1) 58 (ws (zeros 64)) ∧ Row (((w.alloc (.cells (bs l) 48)).alloc (.cells z 58)).alloc (.cells z 58)) (w.heap.size + 1 + 1) 58 (ws (sched l k)) ∧ Below w.heap.size w (((w.alloc (.cells (bs l) 48)).alloc (.cells z 58)).alloc (.cells z 58)) := by
  subst hz
  have e1 : w.heap.size + 1 = (w.alloc (.cells (bs l) 48)).heap.size := by simp
  have e2 : w.heap.size + 1 + 1 = ((w.alloc (.cells (bs l) 48)).alloc (.cells (ws (zeros 64)) 58)).heap.size := by simp
  refine ⟨0, by omega, rfl, ((Row.fresh _ _ _).alloc _).alloc _, ?_, ?_, ((((Below.refl _ _).alloc (Nat.le_refl _) _).alloc (by simp) _)).alloc (by simp; omega) _⟩
  · rw [e1]; exact (Row.fresh _ _ _).alloc _
  · rw [e2]; exact Row.fresh _ _ _
theorem sched_step {w wr : World} {l : List (BitVec 8)} {k : Nat} {x : BitVec 32} (hx : x = if k < 16 then wordAt l k else next (sched l k) k)
    (hr0 : Row wr w.heap.size 48 (bs l)) (hr1 : Row wr (w.heap.size + 1) 58 (ws (zeros 64))) (hr2 : Row wr (w.heap.size + 1 + 1) 58 (ws (sched l k))) (hb : Below w.heap.size w wr) :
    Row (wr.setCell ⟨w.heap.size + 1 + 1, k, none⟩ (.int .u32 (wd x))).drew w.heap.size 48 (bs l) ∧ Row (wr.setCell ⟨w.heap.size + 1 + 1, k, none⟩ (.int .u32 (wd x))).drew (w.heap.size + 1) 58 (ws (zeros 64)) ∧
      Row (wr.setCell ⟨w.heap.size + 1 + 1, k, none⟩ (.int .u32 (wd x))).drew (w.heap.size + 1 + 1) 58 (ws (sched l (k + 1))) ∧ Below w.heap.size w (wr.setCell ⟨w.heap.size + 1 + 1, k, none⟩ (.int .u32 (wd x))).drew := by
  refine ⟨(hr0.far (by simp; omega) _).drew, (hr1.far (by simp) _).drew, ?_, (hb.setCell (by simp; omega) _).drew⟩
  have h := (hr2.put k (.int .u32 (wd x))).drew
  rw [set_ws, hx] at h
  subst hx
  exact h
theorem far4 {wr : World} {g i k : Nat} {v x : Value} (h : wr.cell? ⟨g, i, none⟩ = some x) (hne : i ≠ k) : (wr.setCell ⟨g, k, none⟩ v).drew.cell? ⟨g, i, none⟩ = some x :=
  (World.cell?_setCell_other wr ⟨g, k, none⟩ ⟨g, i, none⟩ v (fun e => hne (by injection e with _ h2; exact h2.symm))).trans h
theorem sub_ne (k m : Nat) (h : 16 ≤ k) (h0 : 0 < m := by decide) : k - m ≠ k := by omega
set_option maxHeartbeats 800000 in
theorem sched_any (l : List (BitVec 8)) (hl : l.length = 64) (w : World) :
    Calls Tryd.prog 30 #[.agg (bs l)] w fun e w' => e = .returned (.agg (ws (sched l 64))) ∧ Below w.heap.size w w' := by
  go_enter Tryd.func30, Tryd.ntmps30
  go_wp2
  go_loopw [6] (fun i wr => ∃ k : Nat, k ≤ 16 ∧ i = .int .i64 k ∧ Row wr w.heap.size 48 (bs l) ∧ Row wr (w.heap.size + 1) 58 (ws (zeros 64)) ∧ Row wr (w.heap.size + 1 + 1) 58 (ws (sched l k)) ∧ Below w.heap.size w wr) (fun i _ => 16 - (intOf i).toNat)
  case atStart => exact start rfl
  case round =>
    obtain ⟨k, hk, rfl, hr0, hr1, hr2, hb⟩ := hrel
    by_cases hlt : k < 16
    · have c0 := hr0.get (get_bs l (4 * k) (by omega))
      have c1 := hr0.get (get_bs l (4 * k + 1) (by omega))
      have c2 := hr0.get (get_bs l (4 * k + 2) (by omega))
      have c3 := hr0.get (get_bs l (4 * k + 3) (by omega))
      have ct := hr2.get (get_ws (sched l k) k (by rw [length_sched]; omega))
      have cf := hr2.free k
      have z0 := i64_id (4 * (k : Int)) (by omega) (by omega)
      have z1 := i64_id (4 * (k : Int) + 1) (by omega) (by omega)
      have z2 := i64_id (4 * (k : Int) + 2) (by omega) (by omega)
      have z3 := i64_id (4 * (k : Int) + 3) (by omega) (by omega)
      have t0 : (4 * (k : Int)).toNat = 4 * k := by omega
      have t1 : (4 * (k : Int) + 1).toNat = 4 * k + 1 := by omega
      have t2 : (4 * (k : Int) + 2).toNat = 4 * k + 2 := by omega
      have t3 : (4 * (k : Int) + 3).toNat = 4 * k + 3 := by omega
      go_wp2
      go_region
      go_wp2
      go_roundw
      case rel => exact ⟨k + 1, by omega, by go_num, sched_step (by rw [if_pos hlt]; simp [wordAt, word]) hr0 hr1 hr2 hb⟩
      case measure => simp [intOf]; omega
    · obtain rfl : k = 16 := by omega
      clear hlt hk
      go_wp2
      go_loopw [5] (fun i wr => ∃ k : Nat, 16 ≤ k ∧ k ≤ 64 ∧ i = .int .i64 k ∧ Row wr w.heap.size 48 (bs l) ∧ Row wr (w.heap.size + 1) 58 (ws (zeros 64)) ∧ Row wr (w.heap.size + 1 + 1) 58 (ws (sched l k)) ∧ Below w.heap.size w wr) (fun i _ => 64 - (intOf i).toNat)
      case atStart => exact ⟨16, by omega, by omega, rfl, hr0, hr1, hr2, hb⟩
      case round =>
        clear hr0 hr1 hr2 hb
        obtain ⟨k, hk0, hk, rfl, hr0, hr1, hr2, hb⟩ := hrel
        by_cases hlt : k < 64
        · have c0 := hr2.get (get_ws (sched l k) (k - 2) (by rw [length_sched]; omega))
          have c1 := hr2.get (get_ws (sched l k) (k - 7) (by rw [length_sched]; omega))
          have c2 := hr2.get (get_ws (sched l k) (k - 15) (by rw [length_sched]; omega))
          have c3 := hr2.get (get_ws (sched l k) (k - 16) (by rw [length_sched]; omega))
          have ct := hr2.get (get_ws (sched l k) k (by rw [length_sched]; omega))
          have cf := hr2.free k
          have z0 := i64_id ((k : Int) - 2) (by omega) (by omega)
          have z1 := i64_id ((k : Int) - 7) (by omega) (by omega)
          have z2 := i64_id ((k : Int) - 15) (by omega) (by omega)
          have z3 := i64_id ((k : Int) - 16) (by omega) (by omega)
          have t0 : ((k : Int) - 2).toNat = k - 2 := by omega
          have t1 : ((k : Int) - 7).toNat = k - 7 := by omega
          have t2 : ((k : Int) - 15).toNat = k - 15 := by omega
          have t3 : ((k : Int) - 16).toNat = k - 16 := by omega
          have b0 : (0 : Int) ≤ (k : Int) - 2 := by omega
          have b1 : (0 : Int) ≤ (k : Int) - 7 := by omega
          have b2 : (0 : Int) ≤ (k : Int) - 15 := by omega
          have b3 : (0 : Int) ≤ (k : Int) - 16 := by omega
          have d0 : (2 : Int) ≤ (k : Int) := by omega
          have d1 : (7 : Int) ≤ (k : Int) := by omega
          have d2 : (15 : Int) ≤ (k : Int) := by omega
          have d3 : (16 : Int) ≤ (k : Int) := by omega
          have f0 : (k : Int) - 2 < 64 := by omega
          have f1 : (k : Int) - 7 < 64 := by omega
          have f2 : (k : Int) - 15 < 64 := by omega
          have f3 : (k : Int) - 16 < 64 := by omega
          have f4 : (k : Int) < 64 := by omega
          have n0 : ¬ k = k - 2 := by omega
          have m0 : ¬ k - 2 = k := by omega
          have n1 : ¬ k = k - 7 := by omega
          have m1 : ¬ k - 7 = k := by omega
          have n2 : ¬ k = k - 15 := by omega
          have m2 : ¬ k - 15 = k := by omega
          have n3 : ¬ k = k - 16 := by omega
          have m3 : ¬ k - 16 = k := by omega
          go_wp2_with fail
          go_region_held3 (fun W => W.cell? ⟨w.heap.size + 1 + 1, k - 2, none⟩ = some (.int .u32 (wd ((sched l k).getD (k - 2) 0))) ∧ W.cell? ⟨w.heap.size + 1 + 1, k - 7, none⟩ = some (.int .u32 (wd ((sched l k).getD (k - 7) 0))) ∧ W.cell? ⟨w.heap.size + 1 + 1, k - 15, none⟩ = some (.int .u32 (wd ((sched l k).getD (k - 15) 0))) ∧ W.cell? ⟨w.heap.size + 1 + 1, k - 16, none⟩ = some (.int .u32 (wd ((sched l k).getD (k - 16) 0)))) (first | exact ⟨far4 c0 m0, far4 c1 m1, far4 c2 m2, far4 c3 m3⟩ | exact ⟨c0, c1, c2, c3⟩ | go_keep)
            (first | (go_at_call 32; refine (ss1_any _ _).mono ?_; rintro e w' ⟨rfl, rfl⟩) | (go_at_call 33; refine (ss0_any _ _).mono ?_; rintro e w' ⟨rfl, rfl⟩))
          go_wp2
          go_roundw
          case rel =>
            (repeat apply Exists.intro)
            refine ⟨⟨k + 1, ?_, ?_, ?_, sched_step (by rw [if_neg (by omega)]; simp [next]) hr0 hr1 hr2 hb⟩, rfl⟩
            · omega
            · omega
            · go_num
          case measure => simp [intOf]; omega
        · obtain rfl : k = 64 := by omega
          clear hlt hk hk0
          have hs0 : (Tryd.prog.info? 58).map (·.size) = some (ws (sched l 64)).size := by rw [size_ws, length_sched]; exact size_w
          have hs1 : (ws (zeros 64)).size = (ws (sched l 64)).size := by rw [size_ws, size_ws, length_sched]; rfl
          have H0 := Lib.hid hs0
          have H1 := Lib.hid hs1
          clear hs0 hs1
          go_wp2_with (first | (refine wpList_load_row rfl 58 _ rfl (w.heap.size + 1 + 1) rfl 58 (ws (sched l 64)) (0, 0) _ hr2 Tryd.underlying58 rfl H0.out ?_) | (refine wpList_store_row rfl 58 _ _ rfl (w.heap.size + 1) (ws (sched l 64)) rfl rfl 58 (ws (zeros 64)) hr1 H0.out H1.out (one_ws _) ?_))
          refine bodyPost_ret (v := .agg (ws (sched l 64))) (results_cell_row Tryd.results30 _ _ (w.heap.size + 1) 58 (ws (sched l 64)) (0, 0) _ rfl (hr1.setRow _) Tryd.underlying58 rfl (by rw [size_ws, length_sched]; exact size_w)) rfl ⟨rfl, below_setRow hb (by omega) _⟩
end Go.Proofs.YtnfceejmkcohnaaDoor
