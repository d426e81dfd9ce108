/- The document's New. -/
import Derived.Test.YteehpdeeaebliaaDiskRefR
namespace Go.Proofs.Yteehpdeeaebliaa
open Go Go.RowKit
theorem made_blocks (z : Value) (hz : z.cells = bs (blk 0#8)) (n : Nat) : (madeCells z.cells (n * 32)).toList = ((DiskM.new n).s.map bytesV).flatten := by
  have e1 : ∀ j, j < 32 → (bs (blk 0#8))[j]! = Value.int .u8 0 := fun j hj => by
    rw [getElem!_pos _ _ (by rw [size_bs, length_blk]; exact hj)]
    have := get_bs (blk 0#8) j (by rw [length_blk]; exact hj)
    rw [Array.getElem?_eq_getElem (by rw [size_bs, length_blk]; exact hj)] at this
    injection this with this
    rw [this]
    rw [show (blk 0#8).getD j 0 = 0#8 by unfold blk; rw [List.getD_eq_getElem?_getD, List.getElem?_replicate, if_pos hj]; rfl]
    rfl
  have e2 : (madeCells z.cells (n * 32)).toList = List.replicate (n * 32) (Value.int .u8 0) := by
    unfold madeCells
    rw [hz]
    apply List.ext_getElem
    · simp
    · intro i h1 h2
      simp only [Array.toList_map, Array.toList_range, List.getElem_map, List.getElem_range, List.getElem_replicate, size_bs, length_blk]
      exact e1 _ (Nat.mod_lt _ (by decide))
  have e3 : bytesV (blk 0#8) = List.replicate 32 (Value.int .u8 0) := by unfold bytesV blk; rw [List.map_replicate]; rfl
  rw [e2]
  show _ = ((List.replicate n (blk 0#8)).map bytesV).flatten
  rw [List.map_replicate, e3, List.flatten_replicate_replicate]
theorem info_blk : (Try.prog.info? 37).map (fun i => (i.zero, i.size, i.bytes)) = some (some (.agg (bs (blk 0#8))), 32, 32) := by kernel_rfl
def NewPost (base : Nat) (w : World) (n : Int) : Ending → World → Prop := fun e w' =>
  if 1 ≤ n ∧ n ≤ 1024 then ∃ g vs, e = .returned (.tuple #[.pointer (some ⟨g, 0, none⟩), .int .i64 0]) ∧ RefD base w' g vs (.slice none 0 0) (DiskM.new n.toNat) ∧ Below w.heap.size w w' ∧ w.heap.size ≤ g ∧ ∀ k, vs.ownBlock = some k → w.heap.size ≤ k
  else e = .returned (.tuple #[.pointer none, .int .i64 1]) ∧ w = w'
set_option maxHeartbeats 800000 in
theorem refnew_any (base : Nat) (w : World) (n : Int) (hbase : base ≤ w.heap.size) :
    Calls Try.prog 11 #[.int .i64 n] w (NewPost base w n) := by
  by_cases hn : 1 ≤ n ∧ n ≤ 1024
  · have e0 : NewPost base w n = fun e w' => ∃ g vs, e = .returned (.tuple #[.pointer (some ⟨g, 0, none⟩), .int .i64 0]) ∧ RefD base w' g vs (.slice none 0 0) (DiskM.new n.toNat) ∧ Below w.heap.size w w' ∧ w.heap.size ≤ g ∧ ∀ k, vs.ownBlock = some k → w.heap.size ≤ k := by
      funext e w'; unfold NewPost; rw [if_pos hn]
    rw [e0]
    obtain ⟨m, rfl⟩ : ∃ m : Nat, n = (m : Int) := ⟨n.toNat, by omega⟩
    obtain ⟨h1, h2⟩ := hn
    obtain ⟨i1, hi1, hz1, hz2, hz3⟩ := info_parts info_blk
    have hB : Hid (i1.bytes * m ≤ 281474976710656) := Lib.hid (by rw [hz3]; omega)
    clear e0
    go_enter Try.func11, Try.ntmps11
    go_wp2_with (first | (refine wpList_make_full w rfl (.tmp 10) (.tmp 10) 49 rfl w.heap.size 37 i1 _ 32 Try.underlying49 hi1 hz1 hz2 .i64 .i64 (m : Int) (m : Int) m rfl rfl rfl rfl hB.out (by unfold maxLen; omega) (Nat.le_refl _) ?_; intro w1 own1 hg1))
    go_ret2
    have hb1 : Below w.heap.size w w1 := below_of_grown hg1 (fun g e => by cases e) (Nat.le_refl _)
    have hcs : (madeCells (Value.agg (bs (blk 0#8))).cells (m * 32)).toList = ((DiskM.new m).s.map bytesV).flatten := made_blocks _ rfl m
    rw [hcs] at own1
    have own2 := (own_mono own1 hbase).alloc (.cells #[.slice (some ⟨w.heap.size, 0, none⟩) m m, .slice none 0 0, .int .i64 (-1), .bool false] 52)
    have hl : (DiskM.new m).s.length = m := by simp [DiskM.new]
    refine ⟨w1.heap.size, .slice (some ⟨w.heap.size, 0, none⟩) m m, rfl, ⟨Nat.le_trans hbase hb1.size, Row.fresh _ _ _, by rw [Int.toNat_natCast, hl]; exact own2, World.ownsRow_nil _ _ _ _, by rw [Int.toNat_natCast]; exact DiskM.Ok.new (by omega) (by omega)⟩, hb1.alloc hb1.size _, hb1.size, fun k hk => ?_⟩
    injection hk with hk
    exact Nat.le_of_eq hk
  · have e0 : NewPost base w n = fun e w' => e = .returned (.tuple #[.pointer none, .int .i64 1]) ∧ w = w' := by
      funext e w'; unfold NewPost; rw [if_neg hn]
    rw [e0]
    clear e0
    by_cases h1 : n < 1
    · clear hn
      go_enter Try.func11, Try.ntmps11
      go_wp2_with fail
      go_ret2
      exact ⟨rfl, rfl⟩
    · have h2 : 1024 < n := by omega
      clear hn
      go_enter Try.func11, Try.ntmps11
      go_wp2_with fail
      go_ret2
      exact ⟨rfl, rfl⟩
end Go.Proofs.Yteehpdeeaebliaa
