import Derived.Test.YthnhgpippdadkaaDoorWakes
import Derived.Test.YthnhgpippdadkaaDoorKeep
namespace Go.Proofs.YthnhgpippdadkaaDoor
open Go Go.RowKit
/- what stands in a pad -/
theorem lows_get (X : Int) (k i : Nat) (hi : i < k) : (lows X k)[i]? = some (lenByte X (k - 1 - i)) := by
  induction k generalizing i with
  | zero => omega
  | succ k ih =>
    cases i with
    | zero => simp [lows]
    | succ i => rw [lows, List.getElem?_cons_succ, ih i (by omega)]; congr 2; omega
theorem pad_first (n : Nat) : (pad n)[0]? = some 0x80#8 := rfl
theorem pad_mid (n i : Nat) (h0 : 1 ≤ i) (h1 : i < padSize n - 8) : (pad n)[i]? = some 0#8 := by
  have hz := padSize_lo n
  obtain ⟨j, rfl⟩ : ∃ j, i = j + 1 := ⟨i - 1, by omega⟩
  rw [pad, padTo, List.getElem?_cons_succ, List.getElem?_append_left (by simp [zer]; omega), zer, List.getElem?_replicate, if_pos (by omega)]
  rfl
theorem pad_last (n i : Nat) (hi : i < 8) : (pad n)[padSize n - 8 + i]? = some (lenByte (bitLen n) (7 - i)) := by
  have hz := padSize_lo n
  rw [pad, padTo, show padSize n - 8 + i = (padSize n - 9 + i) + 1 by omega, List.getElem?_cons_succ, List.getElem?_append_right (by simp [zer])]
  rw [show padSize n - 9 + i - (zer (padSize n - 9)).length = i by simp [zer], show zer (8 - 8) = [] from rfl, List.nil_append, lows_get _ _ _ hi]
theorem lenByte_val (X : Int) (k : Nat) : bd (lenByte X k) = X / 2 ^ (8 * k) % 256 := by rw [lenByte, ← wrap_u8_bd, IntKind.wrap_u8']
theorem pad_mod (n : Nat) : pad (n % 2305843009213693952) = pad n ∧ padSize (n % 2305843009213693952) = padSize n := by
  have h1 : padSize (n % 2305843009213693952) = padSize n := by unfold padSize; rw [show n % 2305843009213693952 % 64 = n % 64 by omega]
  have h2 : bitLen (n % 2305843009213693952) = bitLen n := by unfold bitLen; omega
  exact ⟨by rw [pad, pad, h1, h2], h1⟩
/- the value of the k higher bytes of X -/
def hi8 (X : Int) (k : Nat) : Int := X / 2 ^ (8 * (8 - k))
theorem hi8_zero (X : Int) (h0 : 0 ≤ X) (h1 : X < 18446744073709551616) : hi8 X 0 = 0 := by
  unfold hi8; exact Int.ediv_eq_zero_of_lt h0 h1
theorem hi8_all (X : Int) : hi8 X 8 = X := by unfold hi8; simp
theorem hi8_succ (X : Int) (k : Nat) (hk : k < 8) : hi8 X k * 256 + bd (lenByte X (7 - k)) = hi8 X (k + 1) := by
  unfold hi8
  rw [lenByte_val, show 8 * (8 - k) = 8 * (8 - (k + 1)) + 8 by omega, show 8 * (7 - k) = 8 * (8 - (k + 1)) by omega, Int.pow_add, ← Int.ediv_ediv_of_nonneg (Int.pow_nonneg (by omega))]
  generalize X / 2 ^ (8 * (8 - (k + 1))) = Y
  omega
theorem hi8_lo (X : Int) (k : Nat) (h0 : 0 ≤ X) : 0 ≤ hi8 X k := Int.ediv_nonneg h0 (Int.pow_nonneg (by omega))
theorem hi8_le (X : Int) (k : Nat) (h0 : 0 ≤ X) : hi8 X k ≤ X := Int.ediv_le_self _ h0

theorem row_slice {w : World} {g c : Nat} {q : List (BitVec 8)} {t : TypeId} (hg : Row w g t (bs q)) (hc : q.length ≤ c) : Slice w (.slice (some ⟨g, 0, none⟩) q.length c) q := bytes_slice hg hc
theorem u64_id (n : Int) (h0 : 0 ≤ n) (h1 : n < 18446744073709551616) : IntKind.u64.wrap n = n := by rw [u64_wrap]; omega
set_option maxHeartbeats 800000 in
theorem pads_core (n m s : Nat) (X : Int) (w : World) (hT : Tab w) (hn : n < 18446744073709551616) (_hm : m < 2305843009213693952) (hmn : (n : Int) % 2305843009213693952 = (m : Int)) (hz9 : 1 ≤ s) (hz72 : s + 8 ≤ 72) (hzm : (m + (s + 8)) % 64 = 0)
    (hX : X = 8 * (m : Int)) (hpz : padSize m = s + 8) (hpn : pad n = pad m ∧ padSize n = s + 8) (hbl : bitLen m = X) :
    Calls Tryd.prog 6 #[.int .u64 (n : Int)] w fun e w' => e = .returned (.bool true) ∧ Below w.heap.size w w' := by
  have HT := Lib.hid hT
  have HPZ := Lib.hid hpz
  have HPN := Lib.hid hpn
  have HBL := Lib.hid hbl
  have HX := Lib.hid hX
  clear hT hpz hpn hbl hX
  have d1 : decide ((s : Int) + 8 < 9) = false := by simp; omega
  have d2 : decide ((72 : Int) < (s : Int) + 8) = false := by simp; omega
  go_enter Tryd.func6, Tryd.ntmps6
  go_wp2_with fail
  refine (pad_any m (by omega) w).mono ?_
  rintro e w1 ⟨rfl, rp, hb⟩
  rw [HPZ.out]
  have g0 : w1.cell? ⟨w.heap.size, 0, none⟩ = some (.int .u8 128) := rp.get (by rw [show (128 : Int) = bd 0x80#8 from rfl]; rfl)
  go_wp2_with fail
  clear g0 d1 d2
  go_loop [5, 6] (fun t i => ∃ k : Nat, k ≤ 8 ∧ i = .int .i64 ((s : Int) + (k : Int)) ∧ t = .int .u64 (hi8 X k)) (fun _ i => 8 + s - (intOf i).toNat)
  case atStart => exact ⟨0, by omega, by simp, by rw [hi8_zero X (by have := HX.out; omega) (by have := HX.out; omega)]⟩
  case round =>
    obtain ⟨k, hk, rfl, rfl⟩ := hrel
    by_cases hlt : k < 8
    · have hc : w1.cell? ⟨w.heap.size, s + k, none⟩ = some (.int .u8 (bd (lenByte X (7 - k)))) := by
        have h1 := pad_last m k hlt
        rw [HPZ.out, HBL.out, show s + 8 - 8 + k = s + k by omega] at h1
        refine rp.get ?_
        simp [bs, h1]
      have hs := hi8_succ X k hlt
      have hlo := hi8_lo X k (by have := HX.out; omega)
      have hhi := hi8_le X (k + 1) (by have := HX.out; omega)
      have hXm := HX.out
      have bl := bd_lo (lenByte X (7 - k))
      have bh := bd_hi (lenByte X (7 - k))
      have e1 := u64_id (hi8 X k * 256) (by omega) (by omega)
      have e2 := u64_id (hi8 X k * 256 + bd (lenByte X (7 - k))) (by omega) (by omega)
      have e3 := u64_id (bd (lenByte X (7 - k))) (by omega) (by omega)
      have HS := Lib.hid hs
      clear hs hhi hXm
      generalize hi8 X k = H at *
      generalize bd (lenByte X (7 - k)) = B at *
      go_wp2_with fail
      refine ⟨⟨k + 1, by omega, by go_num, by rw [HS.out]⟩, by simp [intOf]; omega⟩
    · obtain rfl : k = 8 := by omega
      clear hlt hk
      rw [hi8_all]
      go_wp2_with fail
      go_loop [7] (fun i => ∃ k : Nat, 1 ≤ k ∧ k ≤ s ∧ i = .int .i64 (k : Int)) (fun i => s - (intOf i).toNat)
      case atStart => exact ⟨1, by omega, hz9, rfl⟩
      case round =>
        obtain ⟨k, hk1, hk, rfl⟩ := hrel
        by_cases hlt : k < s
        · have hc : w1.cell? ⟨w.heap.size, k, none⟩ = some (.int .u8 0) := by
            have h1 := pad_mid m k hk1 (by rw [HPZ.out]; omega)
            refine rp.get ?_
            simp [bs, h1, bd]
          go_wp2_with fail
          refine ⟨⟨k + 1, by omega, by omega, by go_num⟩, by simp [intOf]; omega⟩
        · obtain rfl : k = s := by omega
          clear hlt hk hk1
          have e8 : IntKind.u64.wrap (8 * (m : Int)) = X := by rw [u64_id _ (by omega) (by omega)]; exact HX.out.symm
          go_wp2_with fail
          refine (pad_any n hn w1).mono ?_
          rintro e w2 ⟨rfl, rp2, hb2⟩
          rw [HPN.out.2]
          go_wp2_with fail
          refine (keep_true _ _ (pad m) w2 ?_ ?_).mono ?_
          · have h := row_slice rp2 (q := pad n) (c := k + 8) (by rw [length_pad, HPN.out.2]; exact Nat.le_refl _)
            rw [length_pad, HPN.out.2, HPN.out.1] at h
            exact h
          · have h := row_slice (rp.call hb2) (q := pad m) (c := k + 8) (by rw [length_pad, HPZ.out]; exact Nat.le_refl _)
            rw [length_pad, HPZ.out] at h
            exact h
          rintro e w3 ⟨rfl, rfl⟩
          have hb3 : Below w.heap.size w w2 := hb.trans (hb2.mono hb.size)
          clear rp rp2 hb hb2
          go_wp2_with fail
          refine (wakes_any w2 (HT.out.below hb3 HT.out.pos)).mono ?_
          rintro e w4 ⟨rfl, hb4⟩
          go_wp2_with fail
          go_ret
          exact ⟨rfl, hb3.trans (hb4.mono hb3.size)⟩
theorem pads_any (n : Nat) (hn : n < 18446744073709551616) (w : World) (hT : Tab w) :
    Calls Tryd.prog 6 #[.int .u64 (n : Int)] w fun e w' => e = .returned (.bool true) ∧ Below w.heap.size w w' := by
  have h1 := padSize_lo (n % 2305843009213693952)
  have h2 := padSize_hi (n % 2305843009213693952)
  have h3 := padSize_whole (n % 2305843009213693952)
  obtain ⟨h4, h5⟩ := pad_mod n
  refine pads_core n (n % 2305843009213693952) (padSize (n % 2305843009213693952) - 8) (8 * ((n % 2305843009213693952 : Nat) : Int)) w hT hn (by omega) (by omega) (by omega) (by omega) (by rw [show padSize (n % 2305843009213693952) - 8 + 8 = padSize (n % 2305843009213693952) by omega]; exact h3) rfl (by omega) ⟨h4.symm, by omega⟩ ?_
  unfold bitLen; omega
end Go.Proofs.YthnhgpippdadkaaDoor
