import Derived.Test.YtnfceejmkcohnaaDoorTurn
import Derived.Test.YtnfceejmkcohnaaDoorSpec2
import Derived.Laws.MakeOwn
namespace Go.Proofs.YtnfceejmkcohnaaDoor
open Go Go.RowKit
theorem u64_wrap (n : Int) : IntKind.u64.wrap n = n % 18446744073709551616 := by simp [IntKind.wrap, IntKind.bits, IntKind.signed]
theorem info_u8 : (Tryd.prog.info? 5).map (fun i => (i.zero, i.size, i.bytes)) = some (some (.int .u8 0), 1, 1) := by kernel_rfl
theorem made_bytes (z : Nat) : madeCells (Value.int .u8 0).cells z = bs (zer z) := by
  apply Array.ext
  · simp [size_madeCells, size_bs, zer]
  · intro i h1 h2
    simp [madeCells, bs, zer, Value.cells, Nat.mod_one, bd]
theorem make_bytes (z : Nat) (k : Int) (hk : k = (z : Int)) (hz : z ≤ 100000) (w : World) :
    (Instr.makeSlice 22 (.int .u64 k) (.int .u64 k)).run Tryd.prog w = .ok (.slice (some ⟨w.heap.size, 0, none⟩) z z) (w.alloc (.cells (bs (zer z)) 5)) := by
  subst hk
  obtain ⟨i0, hi, hz0, hz1, hz2⟩ := info_parts info_u8
  have h := run_make (P := Tryd.prog) w 22 5 i0 (.int .u8 0) Tryd.underlying22 hi hz0 .u64 .u64 (z : Int) (z : Int) (by omega) (by omega) (by rw [hz2]; omega) (by omega)
  rw [hz1] at h
  simp only [Int.toNat_natCast, Nat.mul_one] at h
  rw [made_bytes] at h
  exact h
theorem pad_start {w : World} {z : Nat} {X : Int} (hz : 9 ≤ z) : ∃ k : Nat, k ≤ 8 ∧ Value.int .u64 0 = .int .u64 k ∧ Row (w.alloc (.cells ((bs (zer z)).setIfInBounds 0 (.int .u8 128)) 5)) w.heap.size 5 (bs (padTo z X k)) ∧ Below w.heap.size w (w.alloc (.cells ((bs (zer z)).setIfInBounds 0 (.int .u8 128)) 5)) := by
  have e : (bs (zer z)).setIfInBounds 0 (.int .u8 128) = bs (padTo z X 0) := by
    rw [show (Value.int .u8 128) = .int .u8 (bd 0x80#8) from rfl, set_bs, padTo_zero z X hz]
  rw [e]
  exact ⟨0, by omega, rfl, Row.fresh _ _ _, (Below.refl _ _).alloc (Nat.le_refl _) _⟩
theorem pad_step {w wr : World} {z k : Nat} {X : Int} (hz : 9 ≤ z) (hk : k < 8) (hr : Row wr w.heap.size 5 (bs (padTo z X k))) (hb : Below w.heap.size w wr) :
    Row (wr.setCell ⟨w.heap.size, z - 1 - k, none⟩ (.int .u8 (X / 2 ^ (8 * k) % 256))) w.heap.size 5 (bs (padTo z X (k + 1))) ∧ Below w.heap.size w (wr.setCell ⟨w.heap.size, z - 1 - k, none⟩ (.int .u8 (X / 2 ^ (8 * k) % 256))) := by
  have e : X / 2 ^ (8 * k) % 256 = bd (lenByte X k) := by rw [lenByte, ← wrap_u8_bd, IntKind.wrap_u8']
  rw [e]
  refine ⟨?_, hb.setCell (Nat.le_refl _) _⟩
  have h1 := hr.put (z - 1 - k) (.int .u8 (bd (lenByte X k)))
  rw [set_bs, padTo_set z X k hz hk] at h1
  exact h1
set_option maxHeartbeats 800000 in
theorem pad_core (n z : Nat) (X : Int) (hn : n < 18446744073709551616) (hz : 9 ≤ z) (hz2 : z ≤ 72) (w : World)
    (hX : IntKind.u64.wrap ((n : Int) * 8) = X) (_hX0 : 0 ≤ X) (_hX1 : X < 18446744073709551616)
    (hc : z = if 64 - n % 64 < 9 then 64 - n % 64 + 64 else 64 - n % 64) :
    Calls Tryd.prog 22 #[.int .u64 (n : Int)] w fun e w' => e = .returned (.slice (some ⟨w.heap.size, 0, none⟩) z z) ∧ Row w' w.heap.size 5 (bs (padTo z X 8)) ∧ Below w.heap.size w w' := by
  have hmk := make_bytes z (z : Int) rfl (by omega)
  have g0 := get_bs (zer z) 0 (by simp [zer]; omega)
  by_cases hlt : 64 - n % 64 < 9
  · rw [if_pos hlt] at hc
    have e1 : 64 - (n : Int) % 64 + 64 = (z : Int) := by omega
    have e2 : 64 - (n : Int) % 64 < 9 := by omega
    clear hc hlt
    go_enter Tryd.func22, Tryd.ntmps22
    go_wp2
    clear e1 e2
    go_loopw [20] (fun i wr => ∃ k : Nat, k ≤ 8 ∧ i = .int .u64 k ∧ Row wr w.heap.size 5 (bs (padTo z X k)) ∧ Below w.heap.size w wr) (fun i _ => 8 - (intOf i).toNat)
    case atStart => exact pad_start hz
    case round =>
      clear hmk g0
      obtain ⟨k, hk, rfl, hr, hb⟩ := hrel
      by_cases hlt : k < 8
      · have c0 := hr.get (get_bs (padTo z X k) (z - 1 - k) (by rw [length_padTo z X k hz hk]; omega))
        have f0 := hr.free (z - 1 - k)
        go_wp2
        go_roundw
        case rel => exact ⟨k + 1, by omega, by go_num, pad_step hz hlt hr hb⟩
        case measure => simp [intOf]; omega
      · obtain rfl : k = 8 := by omega
        clear hlt hk
        go_wp2
        go_ret
        exact ⟨rfl, hr, hb⟩
  · rw [if_neg hlt] at hc
    have e1 : 64 - (n : Int) % 64 = (z : Int) := by omega
    have e2 : ¬ (z : Int) < 9 := by omega
    clear hc hlt
    go_enter Tryd.func22, Tryd.ntmps22
    go_wp2
    clear e1 e2
    go_loopw [20] (fun i wr => ∃ k : Nat, k ≤ 8 ∧ i = .int .u64 k ∧ Row wr w.heap.size 5 (bs (padTo z X k)) ∧ Below w.heap.size w wr) (fun i _ => 8 - (intOf i).toNat)
    case atStart => exact pad_start hz
    case round =>
      clear hmk g0
      obtain ⟨k, hk, rfl, hr, hb⟩ := hrel
      by_cases hlt : k < 8
      · have c0 := hr.get (get_bs (padTo z X k) (z - 1 - k) (by rw [length_padTo z X k hz hk]; omega))
        have f0 := hr.free (z - 1 - k)
        go_wp2
        go_roundw
        case rel => exact ⟨k + 1, by omega, by go_num, pad_step hz hlt hr hb⟩
        case measure => simp [intOf]; omega
      · obtain rfl : k = 8 := by omega
        clear hlt hk
        go_wp2
        go_ret
        exact ⟨rfl, hr, hb⟩

theorem pad_any (n : Nat) (hn : n < 18446744073709551616) (w : World) :
    Calls Tryd.prog 22 #[.int .u64 (n : Int)] w fun e w' => e = .returned (.slice (some ⟨w.heap.size, 0, none⟩) (padSize n) (padSize n)) ∧ Row w' w.heap.size 5 (bs (pad n)) ∧ Below w.heap.size w w' :=
  pad_core n (padSize n) (bitLen n) hn (padSize_lo n) (padSize_hi n) w (by rw [u64_wrap]; unfold bitLen; omega) (by unfold bitLen; omega) (by unfold bitLen; omega) rfl
end Go.Proofs.YtnfceejmkcohnaaDoor
