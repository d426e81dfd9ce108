/- The program's slots: each call's contract, over plain numbers. -/
import Derived.Test.YtjlcbfjcknkpnaaSl
import Derived.Test.YtjlcbfjcknkpnaaHalf
import Derived.LoopTactic
import Derived.Deep.Cut
set_option maxRecDepth 4000
namespace Go.Proofs.Ytjlcbfjcknkpnaa
open Go Go.RowKit
theorem wrap_u32n (a : Nat) : IntKind.u32.wrap (a : Int) = ((a % 4294967296 : Nat) : Int) := by rw [IntKind.wrap_u32']; omega
theorem owner_any (a : Nat) (ha : a < 4294967296) (w : World) : Calls Try.prog 9 #[.int .u32 a] w fun e w' => e = .returned (.int .i64 ((a % 4 : Nat) : Int)) ∧ w = w' := by
  have h1 : (a : Int).tmod 4 = ((a % 4 : Nat) : Int) := by rw [Int.tmod_eq_emod_of_nonneg (by omega)]; omega
  have h2 : IntKind.i64.wrap ((a % 4 : Nat) : Int) = ((a % 4 : Nat) : Int) := i64_id _ (by omega) (by omega)
  go_enter Try.func9, Try.ntmps9
  go_wp2_with fail
  go_ret
  exact ⟨rfl, rfl⟩
theorem arethere_one (p : Int) (w : World) : Calls Try.prog 16 #[.slice (some ⟨w.heap.size, 0, none⟩) 1 1] (w.alloc (.cells #[.int .i64 p] 3)) fun e w' => e = .returned (.bool (decide (0 ≤ p) && decide (p < 4))) ∧ Below w.heap.size w w' := by
  have hb := Lib.hid ((Below.refl w.heap.size w).alloc (Nat.le_refl _) (.cells #[.int .i64 p] 3))
  have hc : (w.alloc (.cells #[.int .i64 p] 3)).cell? ⟨w.heap.size, 0, none⟩ = some (.int .i64 p) := (Row.fresh w 3 #[.int .i64 p]).get rfl
  obtain ⟨g, hg⟩ : ∃ g, w.heap.size = g := ⟨_, rfl⟩
  rw [hg] at hb hc ⊢
  clear hg
  obtain ⟨W, hW⟩ : ∃ W, w.alloc (.cells #[.int .i64 p] 3) = W := ⟨_, rfl⟩
  rw [hW] at hb hc ⊢
  clear hW
  obtain ⟨G, hG⟩ : ∃ G, (decide (0 ≤ p) && decide (p < 4)) = G := ⟨_, rfl⟩
  have HG := Lib.hid hG
  rw [hG]
  clear hG
  go_enter Try.func16, Try.ntmps16
  go_wp2_with fail
  go_loopw [7] (fun i wr => ((i = .int .i64 0) ∨ (i = .int .i64 1 ∧ 0 ≤ p ∧ p < 4)) ∧ wr = W) (fun i _ => 1 - (intOf i).toNat)
  case atStart => exact ⟨.inl rfl, rfl⟩
  case round =>
    obtain ⟨h | ⟨h, h0, h4⟩, rfl⟩ := hrel
    · subst h
      have hd1 : decide ((0 : Int) < 1) = true := rfl
      by_cases h0 : p < 0
      · have hd2 : decide (p < 0) = true := decide_eq_true h0
        have hE : G = false := by rw [← HG.out, decide_eq_false (show ¬ 0 ≤ p by omega)]; rfl
        go_wp2_with fail
        go_ret
        first | exact ⟨rfl, hb.out⟩ | (rw [hE]; exact ⟨rfl, hb.out⟩)
      · have hd2 : decide (p < 0) = false := decide_eq_false h0
        by_cases h4 : 4 ≤ p
        · have hd3 : decide (4 ≤ p) = true := decide_eq_true h4
          have hE : G = false := by rw [← HG.out, decide_eq_false (show ¬ p < 4 by omega), Bool.and_false]
          go_wp2_with fail
          go_ret
          first | exact ⟨rfl, hb.out⟩ | (rw [hE]; exact ⟨rfl, hb.out⟩)
        · have hd3 : decide (4 ≤ p) = false := decide_eq_false h4
          go_wp2_with fail
          exact ⟨⟨.inr ⟨rfl, by omega, by omega⟩, trivial⟩, by simp [intOf]⟩
    · subst h
      have hd1 : decide ((1 : Int) < 1) = false := rfl
      have hE : G = true := by rw [← HG.out, decide_eq_true h0, decide_eq_true h4]; rfl
      go_wp2_with fail
      go_ret
      first | exact ⟨rfl, hb.out⟩ | (rw [hE]; exact ⟨rfl, hb.out⟩)
theorem upto_any (p a : Nat) (hp : p < 4) (ha : a < 4294967296) (w : World) : Calls Try.prog 17 #[.int .i64 p, .int .u32 a] w fun e w' => e = .returned (.int .i64 (((a + 4 - p) / 4 : Nat) : Int)) ∧ w = w' := by
  have h1 : IntKind.u64.wrap (a : Int) = (a : Int) := by rw [IntKind.wrap_u64]; omega
  have h2 : IntKind.u64.wrap ((a : Int) + 4) = (a : Int) + 4 := by rw [IntKind.wrap_u64]; omega
  have h3 : IntKind.u64.wrap (p : Int) = (p : Int) := by rw [IntKind.wrap_u64]; omega
  have h4 : IntKind.u64.wrap ((a : Int) + 4 - (p : Int)) = (a : Int) + 4 - (p : Int) := by rw [IntKind.wrap_u64]; omega
  have h5 : ((a : Int) + 4 - (p : Int)).tdiv 4 = (((a + 4 - p) / 4 : Nat) : Int) := by rw [Int.tdiv_eq_ediv_of_nonneg (by omega)]; omega
  have h6 : IntKind.i64.wrap (((a + 4 - p) / 4 : Nat) : Int) = (((a + 4 - p) / 4 : Nat) : Int) := i64_id _ (by omega) (by omega)
  go_enter Try.func17, Try.ntmps17
  go_wp2_with fail
  go_ret
  exact ⟨rfl, rfl⟩
def nextN (p a : Nat) : Nat := (a + 1 + (p + 4 - (a + 1) % 4) % 4) % 4294967296
theorem next_good (p a : Nat) (hp : p < 4) (w : World) : Calls Try.prog 7 #[.int .i64 p, .int .u32 a] w fun e w' => e = .returned (.tuple #[.int .u32 (nextN p a), .int .i64 0]) ∧ Below w.heap.size w w' := by
  have HA := Lib.hid (arethere_one (p : Int) w)
  rw [decide_eq_true (show (0 : Int) ≤ (p : Int) by omega), decide_eq_true (show (p : Int) < 4 by omega)] at HA
  have h1 : IntKind.u32.wrap ((a : Int) + 1) = (((a + 1) % 4294967296 : Nat) : Int) := by rw [show (a : Int) + 1 = ((a + 1 : Nat) : Int) by omega, wrap_u32n]
  go_enter Try.func7, Try.ntmps7
  go_wp2_with fail
  refine HA.out.mono ?_
  rintro e w1 ⟨rfl, hb⟩
  have HB := Lib.hid hb
  clear hb HA
  go_wp2_with fail
  go_loopw [6] (fun i wr => ∃ x k : Nat, k ≤ (p + 4 - (a + 1) % 4) % 4 ∧ x = (a + 1 + k) % 4294967296 ∧ i = .int .u32 x ∧ wr = w1) (fun i _ => (p + 4 - (intOf i).toNat % 4) % 4)
  case atStart => exact ⟨_, 0, by omega, rfl, rfl, rfl⟩
  case round =>
    obtain ⟨x, k, hk, hx, rfl, rfl⟩ := hrel
    have HX := Lib.hid hx
    have hx32 : x < 4294967296 := by omega
    clear hx
    have C := owner_any x hx32 wr
    go_wp2_with fail
    refine C.mono ?_
    rintro e w2 ⟨rfl, rfl⟩
    clear C
    by_cases hq : x % 4 = p
    · have hb : (((x % 4 : Nat) : Int) == (p : Int)) = true := beq_iff_eq.2 (by omega)
      have hE : x = nextN p a := by have := HX.out; unfold nextN; omega
      go_wp2_with fail
      go_ret2
      first | exact ⟨rfl, HB.out⟩ | (rw [← hE]; exact ⟨rfl, HB.out⟩)
    · have hb : (((x % 4 : Nat) : Int) == (p : Int)) = false := beq_eq_false_iff_ne.2 (by omega)
      obtain ⟨y, hy⟩ : ∃ y, (x + 1) % 4294967296 = y := ⟨_, rfl⟩
      have hw : IntKind.u32.wrap ((x : Int) + 1) = (y : Int) := by rw [show (x : Int) + 1 = ((x + 1 : Nat) : Int) by omega, wrap_u32n, hy]
      have HY := Lib.hid hy
      clear hy
      go_wp2_with fail
      exact ⟨⟨y, k + 1, by have := HX.out; omega, by have := HX.out; have := HY.out; omega, rfl, trivial⟩, by have := HY.out; simp [intOf]; omega⟩
theorem next_bad (p : Int) (a : Nat) (hp : ¬ (0 ≤ p ∧ p < 4)) (w : World) : Calls Try.prog 7 #[.int .i64 p, .int .u32 a] w fun e w' => e = .returned (.tuple #[.int .u32 0, .int .i64 1]) ∧ Below w.heap.size w w' := by
  have HA := Lib.hid (arethere_one p w)
  rw [show (decide (0 ≤ p) && decide (p < 4)) = false by rcases Classical.em (0 ≤ p) with h | h <;> simp [h] <;> omega] at HA
  go_enter Try.func7, Try.ntmps7
  go_wp2_with fail
  refine HA.out.mono ?_
  rintro e w1 ⟨rfl, hb⟩
  have HB := Lib.hid hb
  clear hb HA
  go_wp2_with fail
  go_ret2
  exact ⟨rfl, HB.out⟩
def cntN (p a b : Nat) : Nat := if b ≤ a then 0 else (b + 4 - p) / 4 - (a + 4 - p) / 4
theorem count_good (p a b : Nat) (hp : p < 4) (ha : a < 4294967296) (hb : b < 4294967296) (w : World) : Calls Try.prog 11 #[.int .i64 p, .int .u32 a, .int .u32 b] w fun e w' => e = .returned (.int .i64 (cntN p a b)) ∧ Below w.heap.size w w' := by
  have HA := Lib.hid (arethere_one (p : Int) w)
  rw [decide_eq_true (show (0 : Int) ≤ (p : Int) by omega), decide_eq_true (show (p : Int) < 4 by omega)] at HA
  by_cases hle : b ≤ a
  · have hd : decide ((b : Int) ≤ (a : Int)) = true := decide_eq_true (by omega)
    have hE : ((cntN p a b : Nat) : Int) = 0 := by unfold cntN; rw [if_pos hle]; rfl
    rw [hE]
    go_enter Try.func11, Try.ntmps11
    go_wp2_with fail
    go_ret
    exact ⟨rfl, Below.refl _ _⟩
  · have hd : decide ((b : Int) ≤ (a : Int)) = false := decide_eq_false (by omega)
    have hE : (((b + 4 - p) / 4 : Nat) : Int) - (((a + 4 - p) / 4 : Nat) : Int) = ((cntN p a b : Nat) : Int) := by unfold cntN; rw [if_neg hle]; omega
    have hw : IntKind.i64.wrap ((((b + 4 - p) / 4 : Nat) : Int) - (((a + 4 - p) / 4 : Nat) : Int)) = ((cntN p a b : Nat) : Int) := by rw [i64_id _ (by omega) (by omega)]; exact hE
    clear hE
    have D1 := Lib.hid (upto_any p b hp hb)
    have D2 := Lib.hid (upto_any p a hp ha)
    generalize (b + 4 - p) / 4 = X at *
    generalize (a + 4 - p) / 4 = Y at *
    generalize cntN p a b = Z at *
    go_enter Try.func11, Try.ntmps11
    go_wp2_with fail
    refine HA.out.mono ?_
    rintro e w1 ⟨rfl, hbb⟩
    have HB := Lib.hid hbb
    clear hbb HA
    have C1 := D1.out w1
    have C2 := D2.out w1
    clear D1 D2
    go_wp2_with fail
    refine C1.mono ?_
    rintro e w2 ⟨rfl, rfl⟩
    clear C1
    go_wp2_with fail
    refine C2.mono ?_
    rintro e w2 ⟨rfl, rfl⟩
    clear C2
    go_wp2_with fail
    go_ret
    exact ⟨rfl, HB.out⟩
theorem count_bad (p : Int) (a b : Nat) (hp : ¬ (0 ≤ p ∧ p < 4)) (w : World) : Calls Try.prog 11 #[.int .i64 p, .int .u32 a, .int .u32 b] w fun e w' => e = .returned (.int .i64 0) ∧ Below w.heap.size w w' := by
  have HA := Lib.hid (arethere_one p w)
  rw [show (decide (0 ≤ p) && decide (p < 4)) = false by rcases Classical.em (0 ≤ p) with h | h <;> simp [h] <;> omega] at HA
  by_cases hle : b ≤ a
  · have hd : decide ((b : Int) ≤ (a : Int)) = true := decide_eq_true (by omega)
    go_enter Try.func11, Try.ntmps11
    go_wp2_with fail
    go_ret
    exact ⟨rfl, Below.refl _ _⟩
  · have hd : decide ((b : Int) ≤ (a : Int)) = false := decide_eq_false (by omega)
    go_enter Try.func11, Try.ntmps11
    go_wp2_with fail
    refine HA.out.mono ?_
    rintro e w1 ⟨rfl, hbb⟩
    have HB := Lib.hid hbb
    clear hbb HA
    go_wp2_with fail
    go_ret
    exact ⟨rfl, HB.out⟩
def boundI (k : Int) : Int := if 1 ≤ k ∧ k ≤ 1000 then 4 * (20 * k + 8) else 0
theorem bound_any (k : Int) (w : World) : Calls Try.prog 13 #[.int .i64 k] w fun e w' => e = .returned (.int .i64 (boundI k)) ∧ w = w' := by
  by_cases h1 : k < 1
  · have hd : decide (k < 1) = true := decide_eq_true h1
    have hE : boundI k = 0 := by unfold boundI; rw [if_neg (by omega)]
    rw [hE]
    go_enter Try.func13, Try.ntmps13
    go_wp2_with fail
    go_ret
    exact ⟨rfl, rfl⟩
  · have hd : decide (k < 1) = false := decide_eq_false h1
    by_cases h2 : 1000 < k
    · have hd2 : decide (1000 < k) = true := decide_eq_true h2
      have hE : boundI k = 0 := by unfold boundI; rw [if_neg (by omega)]
      rw [hE]
      go_enter Try.func13, Try.ntmps13
      go_wp2_with fail
      go_ret
      exact ⟨rfl, rfl⟩
    · have hd2 : decide (1000 < k) = false := decide_eq_false h2
      have hE : boundI k = 4 * (20 * k + 8) := by unfold boundI; rw [if_pos (by omega)]
      have w1 : IntKind.i64.wrap (20 * k) = 20 * k := i64_id _ (by omega) (by omega)
      have w2 : IntKind.i64.wrap (20 * k + 8) = 20 * k + 8 := i64_id _ (by omega) (by omega)
      have w3 : IntKind.i64.wrap (4 * (20 * k + 8)) = boundI k := by rw [i64_id _ (by omega) (by omega), hE]
      clear hE
      go_enter Try.func13, Try.ntmps13
      go_wp2_with fail
      go_ret
      exact ⟨rfl, rfl⟩
end Go.Proofs.Ytjlcbfjcknkpnaa
