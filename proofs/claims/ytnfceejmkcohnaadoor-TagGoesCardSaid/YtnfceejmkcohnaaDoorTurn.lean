import Derived.Test.YtnfceejmkcohnaaDoorRound
import Derived.Test.YtnfceejmkcohnaaDoorSched
import Derived.StillTailTactics
namespace Go.Proofs.YtnfceejmkcohnaaDoor
open Go Go.RowKit
attribute [local go_sem] xor_wd and_wd or_wd add_wd shr_wd not_wd signed_u32

/- the table of the document's K, where the program keeps it -/
def Tab (w : World) : Prop := ∀ i, i < 64 → w.cell? ⟨0, i, none⟩ = some (.int .u32 (wd (kk.getD i 0)))
theorem Tab.pos {w : World} (h : Tab w) : 0 < w.heap.size := by
  have := World.block_lt_of_cell? w _ (h 0 (by omega)); exact this
theorem Tab.below {w w' : World} {B : Nat} (h : Tab w) (hb : Below B w w') (h0 : 0 < B) : Tab w' := fun i hi => (hb.cell (p := ⟨0, i, none⟩) h0).trans (h i hi)

theorem size_h : (Tryd.prog.info? 46).map (·.size) = some 8 := by kernel_rfl
theorem size_b : (Tryd.prog.info? 48).map (·.size) = some 64 := by kernel_rfl

theorem round_ws (a b c d e f g h kw : BitVec 32) (w : World) :
    Calls Tryd.prog 31 #[.agg #[.int .u32 (wd a), .int .u32 (wd b), .int .u32 (wd c), .int .u32 (wd d), .int .u32 (wd e), .int .u32 (wd f), .int .u32 (wd g), .int .u32 (wd h)], .int .u32 (wd kw)] w fun x w' =>
      x = .returned (.agg (ws (rnd [a, b, c, d, e, f, g, h] kw))) ∧ Below w.heap.size w w' := by
  have e : ws (rnd [a, b, c, d, e, f, g, h] kw) = #[.int .u32 (wd (rnd1 e f g h kw + rnd2 a b c)), .int .u32 (wd a), .int .u32 (wd b), .int .u32 (wd c), .int .u32 (wd (d + rnd1 e f g h kw)), .int .u32 (wd e), .int .u32 (wd f), .int .u32 (wd g)] := by simp [ws, rnd]
  rw [e]; exact round_any _ _ _ _ _ _ _ _ _ _
set_option maxHeartbeats 800000 in
theorem turn_any (h : List (BitVec 32)) (l : List (BitVec 8)) (hh : h.length = 8) (hl : l.length = 64) (w : World) (hT : Tab w) :
    Calls Tryd.prog 27 #[.agg (ws h), .agg (bs l)] w fun e w' => e = .returned (.agg (ws (turn h l))) ∧ Below w.heap.size w w' := by
  have hs33 : (Tryd.prog.info? 46).map (·.size) = some (ws h).size := by rw [size_ws, hh]; exact size_h
  have hs34 : (Tryd.prog.info? 48).map (·.size) = some (bs l).size := by rw [size_bs, hl]; exact size_b
  have hs48 : (Tryd.prog.info? 58).map (·.size) = some (ws (sched l 64)).size := by rw [size_ws, length_sched]; exact size_w
  have H33 := Lib.hid hs33
  have H34 := Lib.hid hs34
  have H48 := Lib.hid hs48
  have HT := Lib.hid hT
  have HH := Lib.hid hh
  have HL := Lib.hid hl
  clear hs33 hs34 hs48 hT hh hl
  go_enter Tryd.func27, Tryd.ntmps27
  go_wp2_with (refine wpList_load_row rfl 48 _ rfl (w.heap.size + 1) rfl 48 (bs l) (0, 0) _ (row3b w _ _ _ _) Tryd.underlying48 rfl H34.out ?_)
  refine (sched_any l HL.out _).mono ?_
  rintro e w1 ⟨rfl, hb1⟩
  have ra := (row3a w 46 (ws h) (.cells (bs l) 48) (.cells (ws (zeros 8)) 46)).call hb1
  have rc := (row3c w 46 (ws (zeros 8)) (.cells (ws h) 46) (.cells (bs l) 48)).call hb1
  have hb : Below w.heap.size w w1 := (below3 w _ _ _).trans (hb1.mono (by simp; omega))
  clear hb1
  go_wp2_with (first | (refine wpList_store_row rfl 58 _ _ rfl w1.heap.size (ws (sched l 64)) rfl rfl 58 _ (Row.fresh _ _ _) H48.out (by rw [size_ws, length_sched]; rfl) (one_ws _) ?_; rw [World.setRow_alloc_new]) | (refine wpList_load_row rfl 46 _ rfl w.heap.size rfl 46 (ws h) (0, 0) _ (ra.alloc _) Tryd.underlying46 rfl H33.out ?_) | (refine wpList_store_row rfl 46 _ _ rfl (w1.heap.size + 1) (ws h) rfl rfl 46 _ (row2b _ _ _ _) H33.out (by rw [size_ws, HH.out]; rfl) (one_ws _) ?_; rw [setRow_alloc2]))
  go_loopw [12] (fun i wr => ∃ k : Nat, k ≤ 64 ∧ i = .int .i64 k ∧ Row wr w.heap.size 46 (ws h) ∧ Row wr (w.heap.size + 1 + 1) 46 (ws (zeros 8)) ∧ Row wr w1.heap.size 58 (ws (sched l 64)) ∧ Row wr (w1.heap.size + 1) 46 (ws (rounds h (sched l 64) k)) ∧ Below w.heap.size w wr) (fun i _ => 64 - (intOf i).toNat)
  case atStart => exact ⟨0, by omega, rfl, (ra.alloc _).alloc _, (rc.alloc _).alloc _, (Row.fresh _ _ _).alloc _, row2b _ _ _ _, (hb.alloc hb.size _).alloc (by have := hb.size; simp; omega) _⟩
  case round =>
    have hz := hb.size
    have hzc := rc.lt
    clear ra rc hb
    obtain ⟨k, hk, rfl, ra, rc, rw_, rs, hb⟩ := hrel
    by_cases hlt : k < 64
    · obtain ⟨a, b, c, d, e, f, g, x, hs⟩ := list8 (rounds h (sched l 64) k) (by rw [length_rounds]; exact HH.out)
      have ct := (HT.out.below hb HT.out.pos) k hlt
      have cw := rw_.get (get_ws (sched l 64) k (by rw [length_sched]; omega))
      have HS := Lib.hid hs
      rw [hs] at rs
      clear hs
      have c0 : wr.cell? ⟨w1.heap.size + 1, 0, none⟩ = some (.int .u32 (wd a)) := rs.get rfl
      have c1 : wr.cell? ⟨w1.heap.size + 1, 1, none⟩ = some (.int .u32 (wd b)) := rs.get rfl
      have c2 : wr.cell? ⟨w1.heap.size + 1, 2, none⟩ = some (.int .u32 (wd c)) := rs.get rfl
      have c3 : wr.cell? ⟨w1.heap.size + 1, 3, none⟩ = some (.int .u32 (wd d)) := rs.get rfl
      have c4 : wr.cell? ⟨w1.heap.size + 1, 4, none⟩ = some (.int .u32 (wd e)) := rs.get rfl
      have c5 : wr.cell? ⟨w1.heap.size + 1, 5, none⟩ = some (.int .u32 (wd f)) := rs.get rfl
      have c6 : wr.cell? ⟨w1.heap.size + 1, 6, none⟩ = some (.int .u32 (wd g)) := rs.get rfl
      have c7 : wr.cell? ⟨w1.heap.size + 1, 7, none⟩ = some (.int .u32 (wd x)) := rs.get rfl
      have f0 : (0 : Int) ≤ (k : Int) := by omega
      have f4 : (k : Int) < 64 := by omega
      go_wp2_with fail
      go_still_tail 8, (by kernel_rfl)
      change wpList _ _ _ _ _ wr.drew
      clear c0 c1 c2 c3 c4 c5 c6 c7 ct cw
      go_wp2_with (first | (go_at_call 31; refine (round_ws a b c d e f g x _ _).mono ?_; rintro z w2 ⟨rfl, hb2⟩) | (refine wpList_store_row rfl 46 _ _ rfl (w1.heap.size + 1) _ rfl rfl 46 _ (rs.drew.call hb2) (by rw [size_ws, length_rnd]; exact size_h) (by rw [size_ws, size_ws, length_rnd]) (one_ws _) ?_))
      go_roundw
      case rel =>
        refine ⟨k + 1, by omega, by go_num, (ra.drew.call hb2).setRow_far (by omega) _, (rc.drew.call hb2).setRow_far (by omega) _, (rw_.drew.call hb2).setRow_far (by omega) _, ?_, below_setRow (hb.drew.trans (hb2.mono hb.size)) (by omega) _⟩
        rw [rounds, HS.out]
        exact (rs.drew.call hb2).setRow _
      case measure => simp [intOf]; omega
    · obtain rfl : k = 64 := by omega
      clear hlt hk rw_
      have HR : Hid ((rounds h (sched l 64) 64).length = 8) := Lib.hid (by rw [length_rounds]; exact HH.out)
      have HF : Hid (turn h l = plus h (rounds h (sched l 64) 64)) := Lib.hid rfl
      generalize rounds h (sched l 64) 64 = s at *
      go_wp2
      go_loopw [25] (fun i wr => ∃ k : Nat, k ≤ 8 ∧ i = .int .i64 k ∧ Row wr w.heap.size 46 (ws (part h s k)) ∧ Row wr (w.heap.size + 1 + 1) 46 (ws (zeros 8)) ∧ Row wr (w1.heap.size + 1) 46 (ws s) ∧ Below w.heap.size w wr) (fun i _ => 8 - (intOf i).toNat)
      case atStart => exact ⟨0, by omega, rfl, by rw [part_zero]; exact ra, rc, rs, hb⟩
      case round =>
        clear ra rc rs hb
        obtain ⟨k, hk, rfl, ra, rc, rs, hb⟩ := hrel
        by_cases hlt : k < 8
        · have c0 := ra.get (get_ws (part h s k) k (by rw [length_part h s k HH.out HR.out hk]; exact hlt))
          rw [part_get h s k HH.out HR.out hlt] at c0
          have cf := ra.free k
          have c1 := rs.get (get_ws s k (by rw [HR.out]; exact hlt))
          go_wp2
          go_region
          go_wp2
          go_roundw
          case rel =>
            refine ⟨k + 1, by omega, by go_num, ?_, (rc.far (by simp; omega) _).drew, (rs.far (by simp; omega) _).drew, (hb.setCell (Nat.le_refl _) _).drew⟩
            have h1 := (ra.put k (.int .u32 (wd (h.getD k 0 + s.getD k 0)))).drew
            rw [set_ws, part_set h s k HH.out HR.out hlt] at h1
            exact h1
          case measure => simp [intOf]; omega
        · obtain rfl : k = 8 := by omega
          rw [part_all h s HH.out HR.out] at ra
          have HS8 : Hid ((Tryd.prog.info? 46).map (·.size) = some (ws (plus h s)).size) := Lib.hid (by rw [size_ws, length_plus h s HH.out HR.out]; exact size_h)
          clear hlt hk
          go_wp2_with (first | (refine wpList_load_row rfl 46 _ rfl w.heap.size rfl 46 (ws (plus h s)) (0, 0) _ ra Tryd.underlying46 rfl HS8.out ?_) | (refine wpList_store_row rfl 46 _ _ rfl (w.heap.size + 1 + 1) (ws (plus h s)) rfl rfl 46 _ rc HS8.out (by rw [size_ws, size_ws, length_plus h s HH.out HR.out]; rfl) (one_ws _) ?_))
          rw [HF.out]
          exact bodyPost_ret (v := .agg (ws (plus h s))) (results_cell_row Tryd.results27 _ _ (w.heap.size + 1 + 1) 46 (ws (plus h s)) (0, 0) _ rfl (rc.setRow _) Tryd.underlying46 rfl HS8.out) rfl ⟨rfl, below_setRow hb (by omega) _⟩
end Go.Proofs.YtnfceejmkcohnaaDoor
