/- The document's slots, and the example of slots' statements. -/
import Derived.Test.YtjlcbfjcknkpnaaSlots
set_option maxRecDepth 4000
namespace Go.Proofs.Ytjlcbfjcknkpnaa
open Go Go.RowKit
theorem rowner_any (a : Nat) (_ : a < 4294967296) (w : World) : Calls Try.prog 10 #[.int .u32 a] w fun e w' => e = .returned (.int .i64 ((a % 4 : Nat) : Int)) ∧ w = w' := by
  have h1 : (a : Int).tmod 4 = ((a % 4 : Nat) : Int) := by rw [Int.tmod_eq_emod_of_nonneg (by omega)]; omega
  have h2 : IntKind.i64.wrap ((a % 4 : Nat) : Int) = ((a % 4 : Nat) : Int) := i64_id _ (by omega) (by omega)
  go_enter Try.func10, Try.ntmps10
  go_wp2_with fail
  go_ret
  exact ⟨rfl, rfl⟩
theorem rnext_good (p a : Nat) (hp : p < 4) (w : World) : Calls Try.prog 8 #[.int .i64 p, .int .u32 a] w fun e w' => e = .returned (.tuple #[.int .u32 (nextN p a), .int .i64 0]) ∧ Below w.heap.size w w' := by
  go_enter Try.func8, Try.ntmps8
  go_wp2_with fail
  go_loopw [6] (fun i wr => ∃ k : Nat, 1 ≤ k ∧ k ≤ (p + 4 - (a + 1) % 4) % 4 + 1 ∧ i = .int .u32 k ∧ wr = w) (fun i _ => 5 - (intOf i).toNat)
  case atStart => exact ⟨1, by omega, by omega, rfl, rfl⟩
  case round =>
    obtain ⟨k, hk1, hk, rfl, rfl⟩ := hrel
    have hd : decide ((k : Int) ≤ 4) = true := decide_eq_true (by omega)
    obtain ⟨x, hx⟩ : ∃ x, (a + k) % 4294967296 = x := ⟨_, rfl⟩
    have hx32 : x < 4294967296 := by omega
    have hw : IntKind.u32.wrap ((a : Int) + (k : Int)) = (x : Int) := by rw [show (a : Int) + (k : Int) = ((a + k : Nat) : Int) by omega, wrap_u32n, hx]
    have HX := Lib.hid hx
    clear hx
    have C := rowner_any x hx32 wr
    go_wp2_with fail
    refine C.mono ?_
    rintro e w2 ⟨rfl, rfl⟩
    clear C
    by_cases hq : x % 4 = p
    · have hb : (((x % 4 : Nat) : Int) == (p : Int)) = true := beq_iff_eq.2 (by omega)
      have hE : x = nextN p a := by have := HX.out; unfold nextN; omega
      go_wp2_with fail
      go_ret2
      first | exact ⟨rfl, Below.refl _ _⟩ | (rw [← hE]; exact ⟨rfl, Below.refl _ _⟩)
    · have hb : (((x % 4 : Nat) : Int) == (p : Int)) = false := beq_eq_false_iff_ne.2 (by omega)
      have hw2 : IntKind.u32.wrap ((k : Int) + 1) = ((k + 1 : Nat) : Int) := by rw [show (k : Int) + 1 = ((k + 1 : Nat) : Int) by omega, wrap_u32n]; omega
      go_wp2_with fail
      exact ⟨⟨k + 1, by omega, by have := HX.out; omega, by go_num, trivial⟩, by simp [intOf]; omega⟩
theorem rnext_bad (p : Int) (a : Nat) (hp : ¬ (0 ≤ p ∧ p < 4)) (w : World) : Calls Try.prog 8 #[.int .i64 p, .int .u32 a] w fun e w' => e = .returned (.tuple #[.int .u32 0, .int .i64 1]) ∧ Below w.heap.size w w' := by
  go_enter Try.func8, Try.ntmps8
  go_wp2_with fail
  go_loopw [6] (fun i wr => ∃ k : Nat, k ≤ 5 ∧ i = .int .u32 k ∧ wr = w) (fun i _ => 5 - (intOf i).toNat)
  case atStart => exact ⟨1, by omega, rfl, rfl⟩
  case round =>
    obtain ⟨k, hk, rfl, rfl⟩ := hrel
    by_cases h5 : k ≤ 4
    · have hd : decide ((k : Int) ≤ 4) = true := decide_eq_true (by omega)
      obtain ⟨x, hx⟩ : ∃ x, (a + k) % 4294967296 = x := ⟨_, rfl⟩
      have hx32 : x < 4294967296 := by omega
      have hw : IntKind.u32.wrap ((a : Int) + (k : Int)) = (x : Int) := by rw [show (a : Int) + (k : Int) = ((a + k : Nat) : Int) by omega, wrap_u32n, hx]
      clear hx
      have C := rowner_any x hx32 wr
      go_wp2_with fail
      refine C.mono ?_
      rintro e w2 ⟨rfl, rfl⟩
      clear C
      have hb : (((x % 4 : Nat) : Int) == p) = false := beq_eq_false_iff_ne.2 (by omega)
      have hw2 : IntKind.u32.wrap ((k : Int) + 1) = ((k + 1 : Nat) : Int) := by rw [show (k : Int) + 1 = ((k + 1 : Nat) : Int) by omega, wrap_u32n]; omega
      go_wp2_with fail
      exact ⟨⟨k + 1, by omega, by go_num, trivial⟩, by simp [intOf]; omega⟩
    · have hd : decide ((k : Int) ≤ 4) = false := decide_eq_false (by omega)
      go_wp2_with fail
      go_ret2
      exact ⟨rfl, Below.refl _ _⟩
theorem rcount_bad (p : Int) (a b : Nat) (hp : ¬ (0 ≤ p ∧ p < 4)) (w : World) : Calls Try.prog 12 #[.int .i64 p, .int .u32 a, .int .u32 b] w fun e w' => e = .returned (.int .i64 0) ∧ Below w.heap.size w w' := by
  by_cases h0 : p < 0
  · have hd : decide (p < 0) = true := decide_eq_true h0
    go_enter Try.func12, Try.ntmps12
    go_wp2_with fail
    go_ret
    exact ⟨rfl, Below.refl _ _⟩
  · have hd : decide (p < 0) = false := decide_eq_false h0
    have hd2 : decide (3 < p) = true := decide_eq_true (by omega)
    go_enter Try.func12, Try.ntmps12
    go_wp2_with fail
    go_ret
    exact ⟨rfl, Below.refl _ _⟩
theorem cnt_step {p a b k c n : Nat} (hp : p < 4) (hk : 1 ≤ k) (hn : n = b - a) (hkn : k ≤ n % 4) (_ : a < b) (hc : c = n / 4 + ((a + k + 3 - p) / 4 - (a + 4 - p) / 4)) :
    ((a + k) % 4 = p → c + 1 = n / 4 + ((a + (k + 1) + 3 - p) / 4 - (a + 4 - p) / 4)) ∧ (¬ (a + k) % 4 = p → c = n / 4 + ((a + (k + 1) + 3 - p) / 4 - (a + 4 - p) / 4)) := by
  subst hc
  constructor <;> intro h <;> omega
theorem cnt_end {p a b c n : Nat} (hp : p < 4) (hn : n = b - a) (hab : a < b) (hc : c = n / 4 + ((a + (n % 4 + 1) + 3 - p) / 4 - (a + 4 - p) / 4)) : c = cntN p a b := by
  subst hc; unfold cntN; rw [if_neg (by omega)]; omega
theorem rcount_good (p a b : Nat) (hp : p < 4) (ha : a < 4294967296) (hb : b < 4294967296) (w : World) : Calls Try.prog 12 #[.int .i64 p, .int .u32 a, .int .u32 b] w fun e w' => e = .returned (.int .i64 (cntN p a b)) ∧ Below w.heap.size w w' := by
  have hd1 : decide ((p : Int) < 0) = false := decide_eq_false (by omega)
  have hd2 : decide (3 < (p : Int)) = false := decide_eq_false (by omega)
  by_cases hle : b ≤ a
  · have hd : decide ((b : Int) ≤ (a : Int)) = true := decide_eq_true (by omega)
    have hE : ((cntN p a b : Nat) : Int) = 0 := by unfold cntN; rw [if_pos hle]; rfl
    rw [hE]
    go_enter Try.func12, Try.ntmps12
    go_wp2_with fail
    go_ret
    exact ⟨rfl, Below.refl _ _⟩
  · have hd : decide ((b : Int) ≤ (a : Int)) = false := decide_eq_false (by omega)
    obtain ⟨n, hn⟩ : ∃ n, n = b - a := ⟨_, rfl⟩
    obtain ⟨m, hm⟩ : ∃ m, n % 4 = m := ⟨_, rfl⟩
    obtain ⟨q, hq⟩ : ∃ q, n / 4 = q := ⟨_, rfl⟩
    have w1 : IntKind.u32.wrap ((b : Int) - (a : Int)) = (n : Int) := by rw [show (b : Int) - (a : Int) = (n : Int) by omega, wrap_u32n]; omega
    have w2 : (n : Int).tdiv 4 = (q : Int) := by rw [Int.tdiv_eq_ediv_of_nonneg (by omega)]; omega
    have w3 : IntKind.i64.wrap (q : Int) = (q : Int) := i64_id _ (by omega) (by omega)
    have w5 : IntKind.u32.wrap (q : Int) = (q : Int) := by rw [wrap_u32n]; omega
    have w6 : IntKind.u32.wrap (m : Int) = (m : Int) := by rw [wrap_u32n]; omega
    have w4 : (n : Int).tmod 4 = (m : Int) := by rw [Int.tmod_eq_emod_of_nonneg (by omega)]; omega
    have HN := Lib.hid hn
    have HM := Lib.hid hm
    have HQ := Lib.hid hq
    have HAB : Hid (a < b) := Lib.hid (by omega)
    have HEND : Hid (q + ((a + (m + 1) + 3 - p) / 4 - (a + 4 - p) / 4) = cntN p a b) := Lib.hid (by subst hm hq; exact cnt_end hp hn HAB.out rfl)
    have HSTEP : Hid (∀ k c, 1 ≤ k → k ≤ m → c = q + ((a + k + 3 - p) / 4 - (a + 4 - p) / 4) → ((a + k) % 4 = p → c + 1 = q + ((a + (k + 1) + 3 - p) / 4 - (a + 4 - p) / 4)) ∧ (¬ (a + k) % 4 = p → c = q + ((a + (k + 1) + 3 - p) / 4 - (a + 4 - p) / 4))) := Lib.hid (by subst hm hq; exact fun k c h1 h2 h3 => cnt_step hp h1 hn h2 HAB.out h3)
    have HST : Hid (q = q + ((a + 1 + 3 - p) / 4 - (a + 4 - p) / 4)) := Lib.hid (by omega)
    have HM4 : Hid (m < 4) := Lib.hid (by omega)
    have HQM : Hid (q < 4294967296) := Lib.hid (by omega)
    have HKA : Hid (∀ k, k ≤ m → a + k < 4294967296) := Lib.hid (by intro k hk; omega)
    clear hn hm hq
    generalize cntN p a b = Z at *
    go_enter Try.func12, Try.ntmps12
    go_wp2_with fail
    go_loopw [8, 9] (fun s i wr => ∃ k c : Nat, 1 ≤ k ∧ k ≤ m + 1 ∧ i = .int .u32 k ∧ s = .int .i64 c ∧ c = q + ((a + k + 3 - p) / 4 - (a + 4 - p) / 4) ∧ c ≤ q + k ∧ wr = w) (fun _ i _ => m + 1 - (intOf i).toNat)
    case atStart => exact ⟨1, q, by omega, by omega, rfl, rfl, HST.out, by omega, rfl⟩
    case round =>
      obtain ⟨k, c, hk1, hk, rfl, rfl, hc, hcq, rfl⟩ := hrel
      have HC := Lib.hid hc
      clear hc
      by_cases hkm : k ≤ m
      · have hd : decide ((k : Int) ≤ (m : Int)) = true := decide_eq_true (by omega)
        obtain ⟨x, hx⟩ : ∃ x, a + k = x := ⟨_, rfl⟩
        have hx32 : x < 4294967296 := by have := HKA.out k hkm; omega
        have hw : IntKind.u32.wrap ((a : Int) + (k : Int)) = (x : Int) := by rw [show (a : Int) + (k : Int) = ((a + k : Nat) : Int) by omega, wrap_u32n]; omega
        have HX := Lib.hid hx
        clear hx
        have C := rowner_any x hx32 wr
        have hw2 : IntKind.u32.wrap ((k : Int) + 1) = ((k + 1 : Nat) : Int) := by rw [show (k : Int) + 1 = ((k + 1 : Nat) : Int) by omega, wrap_u32n]; have := HM4.out; omega
        have hw3 : IntKind.i64.wrap ((c : Int) + 1) = ((c + 1 : Nat) : Int) := by have := HQM.out; have := HM4.out; rw [i64_id _ (by omega) (by omega)]; omega
        go_wp2_with fail
        refine C.mono ?_
        rintro e w2 ⟨rfl, rfl⟩
        clear C
        by_cases hq : x % 4 = p
        · have hb : (((x % 4 : Nat) : Int) == (p : Int)) = true := beq_iff_eq.2 (by omega)
          have HE := Lib.hid ((HSTEP.out k c hk1 hkm HC.out).1 (by rw [HX.out]; exact hq))
          go_wp2_with fail
          exact ⟨⟨k + 1, c + 1, by omega, by omega, by go_num, by go_num, HE.out, by omega, trivial⟩, by simp [intOf]; omega⟩
        · have hb : (((x % 4 : Nat) : Int) == (p : Int)) = false := beq_eq_false_iff_ne.2 (by omega)
          have HE := Lib.hid ((HSTEP.out k c hk1 hkm HC.out).2 (by rw [HX.out]; exact hq))
          go_wp2_with fail
          exact ⟨⟨k + 1, c, by omega, by omega, by go_num, rfl, HE.out, by omega, trivial⟩, by simp [intOf]; omega⟩
      · have hd : decide ((k : Int) ≤ (m : Int)) = false := decide_eq_false (by omega)
        have hE : c = Z := by obtain rfl : k = m + 1 := by omega
                              exact HC.out.trans HEND.out
        go_wp2_with fail
        go_ret
        first | exact ⟨rfl, Below.refl _ _⟩ | (rw [hE]; exact ⟨rfl, Below.refl _ _⟩)
theorem rbound_any (k : Int) (w : World) : Calls Try.prog 14 #[.int .i64 k] w fun e w' => e = .returned (.int .i64 (boundI k)) ∧ w = w' := by
  by_cases h1 : k < 1
  · have hd : decide (k < 1) = true := decide_eq_true h1
    have hE : boundI k = 0 := by unfold boundI; rw [if_neg (by omega)]
    rw [hE]
    go_enter Try.func14, Try.ntmps14
    go_wp2_with fail
    go_ret
    exact ⟨rfl, rfl⟩
  · have hd : decide (k < 1) = false := decide_eq_false h1
    by_cases h2 : 1000 < k
    · have hd2 : decide (1000 < k) = true := decide_eq_true h2
      have hE : boundI k = 0 := by unfold boundI; rw [if_neg (by omega)]
      rw [hE]
      go_enter Try.func14, Try.ntmps14
      go_wp2_with fail
      go_ret
      exact ⟨rfl, rfl⟩
    · have hd2 : decide (1000 < k) = false := decide_eq_false h2
      have hE : boundI k = 4 * (20 * k + 8) := by unfold boundI; rw [if_pos (by omega)]
      have w1 : IntKind.i64.wrap (20 * k) = 20 * k := i64_id _ (by omega) (by omega)
      have w2 : IntKind.i64.wrap (20 * k + 8) = 20 * k + 8 := i64_id _ (by omega) (by omega)
      have w3 : IntKind.i64.wrap (4 * (20 * k + 8)) = boundI k := by rw [i64_id _ (by omega) (by omega), hE]
      clear hE
      go_enter Try.func14, Try.ntmps14
      go_wp2_with fail
      go_ret
      exact ⟨rfl, rfl⟩
theorem slwakes_any (w : World) : Calls Try.prog 15 #[] w fun e w' => e = .returned (.bool true) ∧ Below w.heap.size w w' := by
  have C1 := Lib.hid (next_good 1 1 (by decide) w)
  rw [show nextN 1 1 = 5 by decide] at C1
  have C2 := Lib.hid (next_bad 4 1 (by decide))
  have C3 := Lib.hid (owner_any 6 (by decide))
  have C4 := Lib.hid (count_good 2 1 6 (by decide) (by decide) (by decide))
  rw [show cntN 2 1 6 = 2 by decide] at C4
  have C5 := Lib.hid (bound_any 1)
  rw [show boundI 1 = 112 by decide] at C5
  have C6 := Lib.hid (bound_any 0)
  rw [show boundI 0 = 0 by decide] at C6
  go_enter Try.func15, Try.ntmps15
  go_wp2_with fail
  refine C1.out.mono ?_
  rintro e w1 ⟨rfl, hb⟩
  have HB1 := Lib.hid hb
  clear hb
  go_wp2_with fail
  refine (C2.out w1).mono ?_
  rintro e w2 ⟨rfl, hb⟩
  have HB2 := Lib.hid (HB1.out.trans (hb.mono HB1.out.size))
  clear hb HB1
  go_wp2_with fail
  refine (C3.out w2).mono ?_
  rintro e w3 ⟨rfl, rfl⟩
  go_wp2_with fail
  refine (C4.out w2).mono ?_
  rintro e w3 ⟨rfl, hb⟩
  have HB3 := Lib.hid (HB2.out.trans (hb.mono HB2.out.size))
  clear hb HB2
  go_wp2_with fail
  refine (C5.out w3).mono ?_
  rintro e w4 ⟨rfl, rfl⟩
  go_wp2_with fail
  refine (C6.out w3).mono ?_
  rintro e w4 ⟨rfl, rfl⟩
  go_wp2_with fail
  go_ret
  exact ⟨rfl, HB3.out⟩
end Go.Proofs.Ytjlcbfjcknkpnaa
