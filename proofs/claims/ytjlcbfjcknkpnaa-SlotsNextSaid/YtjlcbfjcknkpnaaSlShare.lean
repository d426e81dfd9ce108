/- The statement SlotsShare: its walk. -/
import Derived.Test.YtjlcbfjcknkpnaaSlotsRef
import Derived.Test.YtjlcbfjcknkpnaaOpenN
set_option maxRecDepth 4000
namespace Go.Proofs.Ytjlcbfjcknkpnaa
open Go Go.RowKit
def sumN (a b : Nat) : Nat → Nat
  | 0 => 0
  | p + 1 => sumN a b p + cntN p a b
theorem cnt_form (p x i y j : Nat) (hp : p < 4) (h : 4 * y + j ≠ 0) : cntN p (4 * x + i) (4 * x + i + (4 * y + j)) = y + (i + j + 4 - p) / 4 - (i + 4 - p) / 4 := by
  unfold cntN
  rw [if_neg (by omega)]
  have h1 : (4 * x + i + (4 * y + j) + 4 - p) / 4 = x + y + (i + j + 4 - p) / 4 := by omega
  have h2 : (4 * x + i + 4 - p) / 4 = x + (i + 4 - p) / 4 := by omega
  rw [h1, h2]; omega
theorem sum_4 (a n : Nat) : sumN a (a + n) 4 = n := by
  simp only [sumN]
  by_cases h : n = 0
  · subst h; simp [cntN]
  · obtain ⟨x, i, hi, rfl⟩ : ∃ x i, i < 4 ∧ a = 4 * x + i := ⟨a / 4, a % 4, by omega, by omega⟩
    obtain ⟨y, j, hj, rfl⟩ : ∃ y j, j < 4 ∧ n = 4 * y + j := ⟨n / 4, n % 4, by omega, by omega⟩
    rw [cnt_form 0 x i y j (by decide) h, cnt_form 1 x i y j (by decide) h, cnt_form 2 x i y j (by decide) h, cnt_form 3 x i y j (by decide) h]
    clear h
    obtain rfl | rfl | rfl | rfl : i = 0 ∨ i = 1 ∨ i = 2 ∨ i = 3 := by omega
    all_goals obtain rfl | rfl | rfl | rfl : j = 0 ∨ j = 1 ∨ j = 2 ∨ j = 3 := by omega
    all_goals simp
    all_goals omega
theorem cnt_4 (p a : Nat) (hp : p < 4) : cntN p a (a + 4) = 1 := by unfold cntN; rw [if_neg (by omega)]; omega
theorem cnt_lo (p a n : Nat) (hp : p < 4) : n / 4 ≤ cntN p a (a + n) ∧ cntN p a (a + n) ≤ n / 4 + 1 := by
  unfold cntN
  by_cases h : n = 0
  · subst h; simp
  · rw [if_neg (by omega)]; omega
theorem sum_le (a n : Nat) : ∀ p, p ≤ 4 → sumN a (a + n) p ≤ p * (n / 4 + 1)
  | 0, _ => by simp [sumN]
  | p + 1, h => by
    have h1 := sum_le a n p (by omega)
    have h2 := (cnt_lo p a n (by omega)).2
    rw [Nat.succ_mul]
    show sumN a (a + n) p + cntN p a (a + n) ≤ _
    omega
theorem next_lo (p a : Nat) (ha : a < 2147483648) : a < nextN p a ∧ nextN p a ≤ a + 4 := by unfold nextN; omega
theorem next_mod (p a : Nat) (hp : p < 4) : nextN p a % 4 = p := by unfold nextN; omega
theorem next_next (p t : Nat) (hp : t % 4 = p) : nextN p t = (t + 4) % 4294967296 := by unfold nextN; omega
set_option maxHeartbeats 400000 in
theorem slshare_walk (a' n' : Int) (w : World) (ha' : (Lit.int .u32 a').wf = true) (hn' : (Lit.int .u16 n').wf = true) :
    Calls Try.prog 4 #[.int .u32 a', .int .u16 n'] w fun e w' => e = .returned (.bool true) ∧ Below w.heap.size w w' := by
  obtain ⟨from', rfl, hfr⟩ := nat_u32 ha'
  obtain ⟨n, rfl, hn⟩ := nat_u16 hn'
  clear ha' hn'
  obtain ⟨a, ha⟩ : ∃ a, from' % 2147483648 = a := ⟨_, rfl⟩
  obtain ⟨b, hb⟩ : ∃ b, a + n = b := ⟨_, rfl⟩
  obtain ⟨q, hq⟩ : ∃ q, n / 4 = q := ⟨_, rfl⟩
  obtain ⟨a4, ha4⟩ : ∃ a4, a + 4 = a4 := ⟨_, rfl⟩
  have ha31 : a < 2147483648 := by omega
  have c1 : (from' : Int).tmod 2147483648 = (a : Int) := by rw [Int.tmod_eq_emod_of_nonneg (by omega)]; omega
  have c2 : IntKind.u32.wrap (a : Int) = (a : Int) := by rw [wrap_u32n]; omega
  have c3 : IntKind.u32.wrap (n : Int) = (n : Int) := by rw [wrap_u32n]; omega
  have c4 : IntKind.u32.wrap ((a : Int) + (n : Int)) = (b : Int) := by rw [show (a : Int) + (n : Int) = ((a + n : Nat) : Int) by omega, wrap_u32n]; omega
  have c5 : IntKind.i64.wrap (n : Int) = (n : Int) := i64_id _ (by omega) (by omega)
  have c6 : (n : Int).tdiv 4 = (q : Int) := by rw [Int.tdiv_eq_ediv_of_nonneg (by omega)]; omega
  have c7 : IntKind.i64.wrap (q : Int) = (q : Int) := i64_id _ (by omega) (by omega)
  have c8 : IntKind.i64.wrap ((q : Int) + 1) = ((q + 1 : Nat) : Int) := by rw [i64_id _ (by omega) (by omega)]; omega
  have c9 : IntKind.u32.wrap ((a : Int) + 4) = (a4 : Int) := by rw [show (a : Int) + 4 = ((a + 4 : Nat) : Int) by omega, wrap_u32n]; omega
  have HCN : Hid (∀ p : Nat, p < 4 → ∃ c : Nat, q ≤ c ∧ c ≤ q + 1 ∧ sumN a b (p + 1) = sumN a b p + c ∧ ∀ w, Calls Try.prog 11 #[.int .i64 p, .int .u32 a, .int .u32 b] w fun e w' => e = .returned (.int .i64 c) ∧ Below w.heap.size w w') := Lib.hid fun p hp =>
    ⟨cntN p a b, by rw [← hb, ← hq]; exact (cnt_lo p a n hp).1, by rw [← hb, ← hq]; exact (cnt_lo p a n hp).2, rfl, count_good p a b hp (by omega) (by omega)⟩
  have HC4 : Hid (∀ p : Nat, p < 4 → ∀ w, Calls Try.prog 11 #[.int .i64 p, .int .u32 a, .int .u32 a4] w fun e w' => e = .returned (.int .i64 1) ∧ Below w.heap.size w w') := Lib.hid fun p hp w => by
    have C1 := count_good p a a4 hp (by omega) (by omega) w
    rw [← ha4, cnt_4 p a hp, ha4] at C1
    exact C1
  have HNX : Hid (∀ p : Nat, p < 4 → ∃ t : Nat, a < t ∧ t ≤ a4 ∧ t < 4294967000 ∧ t % 4 = p ∧ (∀ w, Calls Try.prog 7 #[.int .i64 p, .int .u32 a] w fun e w' => e = .returned (.tuple #[.int .u32 t, .int .i64 0]) ∧ Below w.heap.size w w') ∧ (∀ w, Calls Try.prog 7 #[.int .i64 p, .int .u32 t] w fun e w' => e = .returned (.tuple #[.int .u32 ((t + 4 : Nat) : Int), .int .i64 0]) ∧ Below w.heap.size w w')) := Lib.hid fun p hp => by
    have h1 := next_lo p a ha31
    have h2 := next_mod p a hp
    refine ⟨nextN p a, by omega, by omega, by omega, h2, next_good p a hp, fun w => ?_⟩
    have C1 := next_good p (nextN p a) hp w
    rw [next_next p _ h2, Nat.mod_eq_of_lt (by omega)] at C1
    exact C1
  have HSUM : Hid (sumN a b 4 = n) := Lib.hid (by rw [← hb]; exact sum_4 a n)
  have HSLE : Hid (∀ p, p ≤ 4 → sumN a b p ≤ p * (q + 1)) := Lib.hid (by rw [← hb, ← hq]; exact sum_le a n)
  have HQ : Hid (q < 65536) := Lib.hid (by omega)
  clear hfr ha hb hq ha4 ha31
  go_enter Try.func4, Try.ntmps4
  go_wp2_with fail
  go_loopw [7, 8] (fun s i wr => ∃ p : Nat, p ≤ 4 ∧ i = .int .i64 p ∧ s = .int .i64 (sumN a b p) ∧ Below w.heap.size w wr) (fun _ i _ => 4 - (intOf i).toNat)
  case atStart => exact ⟨0, by omega, rfl, rfl, Below.refl _ _⟩
  case round =>
    obtain ⟨p, hp4, rfl, rfl, hb⟩ := hrel
    have HB := Lib.hid hb
    clear hb
    by_cases hp : p < 4
    · have hd : decide ((p : Int) < 4) = true := decide_eq_true (by omega)
      have c13 : IntKind.i64.wrap ((p : Int) + 1) = ((p + 1 : Nat) : Int) := by rw [i64_id _ (by omega) (by omega)]; omega
      obtain ⟨c, hc1, hc2, hcs, C1⟩ := HCN.out p hp
      obtain ⟨t, ht1, ht2, ht3, ht4, C3, C4⟩ := HNX.out p hp
      have HSP := Lib.hid (HSLE.out p hp4)
      obtain ⟨s, hs⟩ : ∃ s, sumN a b p = s := ⟨_, rfl⟩
      rw [hs] at hcs HSP ⊢
      clear hs
      have HCS := Lib.hid hcs
      have HC1 := Lib.hid C1
      have HC3 := Lib.hid C3
      have HC4' := Lib.hid C4
      clear hcs C1 C3 C4
      have e1 : decide ((c : Int) < (q : Int)) = false := decide_eq_false (by omega)
      have e2 : decide (((q + 1 : Nat) : Int) < (c : Int)) = false := decide_eq_false (by omega)
      have e1' : ¬ c < q := by omega
      have e2' : ¬ q + 1 < c := by omega
      have e3 : decide ((t : Int) ≤ (a : Int)) = false := decide_eq_false (by omega)
      have e3' : ¬ t ≤ a := by omega
      have e4 : decide ((a4 : Int) < (t : Int)) = false := decide_eq_false (by omega)
      have e4' : ¬ a4 < t := by omega
      have e5 : (((t % 4 : Nat) : Int) == (p : Int)) = true := beq_iff_eq.2 (by omega)
      have e6 : IntKind.u32.wrap ((t : Int) + 4) = ((t + 4 : Nat) : Int) := by rw [show (t : Int) + 4 = ((t + 4 : Nat) : Int) by omega, wrap_u32n]; omega
      have e7 : IntKind.i64.wrap ((s : Int) + (c : Int)) = ((s + c : Nat) : Int) := by
        have h1 := HSP.out
        have h2 := HQ.out
        have h3 : p * (q + 1) ≤ 4 * (q + 1) := Nat.mul_le_mul_right _ (by omega)
        rw [i64_id _ (by omega) (by omega)]; omega
      have HOW := Lib.hid (owner_any t (by omega))
      obtain ⟨t4, ht4'⟩ : ∃ t4, t + 4 = t4 := ⟨_, rfl⟩
      rw [ht4'] at e6 HC4'
      obtain ⟨r, hr⟩ : ∃ r, t % 4 = r := ⟨_, rfl⟩
      rw [hr] at e5 HOW
      obtain ⟨q1, hq1⟩ : ∃ q1, q + 1 = q1 := ⟨_, rfl⟩
      rw [hq1] at e2 e2' c8
      clear hr ht4' hq1 ht1 ht2 ht3 ht4 hc1 hc2
      go_wp2_with fail
      refine (HC1.out wr).mono ?_
      rintro e w1 ⟨rfl, hb⟩
      have HB1 := Lib.hid (HB.out.trans (hb.mono HB.out.size))
      clear hb HB HC1
      go_wp2_with fail
      refine (HC4.out p hp w1).mono ?_
      rintro e w2 ⟨rfl, hb⟩
      have HB2 := Lib.hid (HB1.out.trans (hb.mono HB1.out.size))
      clear hb HB1
      go_wp2_with fail
      refine (HC3.out w2).mono ?_
      rintro e w3 ⟨rfl, hb⟩
      have HB3 := Lib.hid (HB2.out.trans (hb.mono HB2.out.size))
      clear hb HB2 HC3
      go_wp2_with fail
      refine (HOW.out w3).mono ?_
      rintro e w4 ⟨rfl, rfl⟩
      clear HOW
      go_wp2_with fail
      refine (HC4'.out w3).mono ?_
      rintro e w4 ⟨rfl, hb⟩
      have HB4 := Lib.hid (HB3.out.trans (hb.mono HB3.out.size))
      clear hb HB3 HC4'
      go_wp2_with fail
      exact ⟨⟨p + 1, by omega, by go_num, by rw [HCS.out]; go_num, HB4.out⟩, by simp [intOf]; omega⟩
    · have hd : decide ((p : Int) < 4) = false := decide_eq_false (by omega)
      obtain rfl : p = 4 := by omega
      rw [HSUM.out]
      go_wp2_with fail
      refine (slwakes_any wr).mono ?_
      rintro e w2 ⟨rfl, hb⟩
      have HB2 := Lib.hid (HB.out.trans (hb.mono HB.out.size))
      clear hb
      go_wp2_with fail
      go_ret
      exact ⟨rfl, HB2.out⟩
end Go.Proofs.Ytjlcbfjcknkpnaa
