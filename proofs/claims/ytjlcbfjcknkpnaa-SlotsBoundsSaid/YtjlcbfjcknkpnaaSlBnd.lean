/- The statement SlotsBounds: its walk. -/
import Derived.Test.YtjlcbfjcknkpnaaSlotsRef
import Derived.Test.YtjlcbfjcknkpnaaOpenN
set_option maxRecDepth 4000
namespace Go.Proofs.Ytjlcbfjcknkpnaa
open Go Go.RowKit
theorem bound_n (n : Nat) (h1 : 1 ≤ n) (h2 : n ≤ 1000) : boundI n = ((80 * n + 32 : Nat) : Int) := by unfold boundI; rw [if_pos (by omega)]; omega
theorem cnt_bound (p f n : Nat) (hp : p < 4) : cntN p f (f + (80 * n + 32)) = 20 * n + 8 := by unfold cntN; rw [if_neg (by omega)]; omega
set_option maxHeartbeats 400000 in
theorem slbounds_walk (k' a' : Int) (w : World) (hk' : (Lit.int .u8 k').wf = true) (ha' : (Lit.int .u32 a').wf = true) :
    Calls Try.prog 6 #[.int .u8 k', .int .u32 a'] w fun e w' => e = .returned (.bool true) ∧ Below w.heap.size w w' := by
  obtain ⟨k, rfl, hk⟩ := nat_u8 hk'
  obtain ⟨a, rfl, ha⟩ := nat_u32 ha'
  clear hk' ha'
  obtain ⟨n, hn⟩ : ∃ n, 1 + k = n := ⟨_, rfl⟩
  obtain ⟨B, hB⟩ : ∃ B, 80 * n + 32 = B := ⟨_, rfl⟩
  obtain ⟨f, hf⟩ : ∃ f, a % 1073741824 = f := ⟨_, rfl⟩
  obtain ⟨C, hC⟩ : ∃ C, 20 * n + 8 = C := ⟨_, rfl⟩
  obtain ⟨F, hF⟩ : ∃ F, f + B = F := ⟨_, rfl⟩
  have c1 : IntKind.i64.wrap (k : Int) = (k : Int) := i64_id _ (by omega) (by omega)
  have c2 : IntKind.i64.wrap (1 + (k : Int)) = (n : Int) := by rw [i64_id _ (by omega) (by omega)]; omega
  have c3 : (a : Int).tmod 1073741824 = (f : Int) := by rw [Int.tmod_eq_emod_of_nonneg (by omega)]; omega
  have c4 : IntKind.u32.wrap (B : Int) = (B : Int) := by rw [wrap_u32n]; omega
  have c5 : IntKind.u32.wrap ((f : Int) + (B : Int)) = (F : Int) := by rw [show (f : Int) + (B : Int) = ((f + B : Nat) : Int) by omega, wrap_u32n]; omega
  have c6 : IntKind.i64.wrap (20 * (n : Int)) = 20 * (n : Int) := i64_id _ (by omega) (by omega)
  have c7 : IntKind.i64.wrap (20 * (n : Int) + 8) = (C : Int) := by rw [i64_id _ (by omega) (by omega)]; omega
  have c8 : IntKind.i64.wrap ((n : Int) + 1) = ((n + 1 : Nat) : Int) := by rw [i64_id _ (by omega) (by omega)]; omega
  have c9 : IntKind.i64.wrap ((B : Int) + 80) = ((B + 80 : Nat) : Int) := by rw [i64_id _ (by omega) (by omega)]; omega
  have c10 : IntKind.i64.wrap (80 * (n : Int)) = 80 * (n : Int) := i64_id _ (by omega) (by omega)
  have c11 : IntKind.i64.wrap (80 * (n : Int) + 32) = (B : Int) := by rw [i64_id _ (by omega) (by omega)]; omega
  have c12 : IntKind.u32.wrap (f : Int) = (f : Int) := by rw [wrap_u32n]; omega
  have HBN := Lib.hid (bound_any (n : Int))
  rw [bound_n n (by omega) (by omega), hB] at HBN
  have HBN1 := Lib.hid (bound_any ((n + 1 : Nat) : Int))
  rw [bound_n (n + 1) (by omega) (by omega), show 80 * (n + 1) + 32 = B + 80 by omega] at HBN1
  have HCN : Hid (∀ p : Nat, p < 4 → ∀ w, Calls Try.prog 11 #[.int .i64 p, .int .u32 f, .int .u32 F] w fun e w' => e = .returned (.int .i64 C) ∧ Below w.heap.size w w') := Lib.hid fun p hp w => by
    have C1 := count_good p f F hp (by omega) (by omega) w
    rw [← hF, ← hB, cnt_bound p f n hp, hC, hB, hF] at C1
    exact C1
  generalize n + 1 = n1 at *
  generalize B + 80 = B1 at *
  clear hn hB hf hC hF ha hk
  go_enter Try.func6, Try.ntmps6
  go_wp2_with fail
  refine (HBN.out w).mono ?_
  rintro e w1 ⟨rfl, rfl⟩
  clear HBN
  go_wp2_with fail
  go_loopw [8] (fun i wr => ∃ p : Nat, p ≤ 4 ∧ i = .int .i64 p ∧ Below w.heap.size w wr) (fun i _ => 4 - (intOf i).toNat)
  case atStart => exact ⟨0, by omega, rfl, Below.refl _ _⟩
  case round =>
    obtain ⟨p, hp4, rfl, hb⟩ := hrel
    have HB := Lib.hid hb
    clear hb
    by_cases hp : p < 4
    · have hd : decide ((p : Int) < 4) = true := decide_eq_true (by omega)
      have c13 : IntKind.i64.wrap ((p : Int) + 1) = ((p + 1 : Nat) : Int) := by rw [i64_id _ (by omega) (by omega)]; omega
      have C1 := HCN.out p hp wr
      go_wp2_with fail
      refine C1.mono ?_
      rintro e w2 ⟨rfl, hb⟩
      have HB2 := Lib.hid (HB.out.trans (hb.mono HB.out.size))
      clear hb C1
      go_wp2_with fail
      exact ⟨⟨p + 1, by omega, by go_num, HB2.out⟩, by simp [intOf]; omega⟩
    · have hd : decide ((p : Int) < 4) = false := decide_eq_false (by omega)
      go_wp2_with fail
      refine (HBN1.out wr).mono ?_
      rintro e w2 ⟨rfl, rfl⟩
      clear HBN1
      go_wp2_with fail
      refine (slwakes_any wr).mono ?_
      rintro e w2 ⟨rfl, hb⟩
      have HB2 := Lib.hid (HB.out.trans (hb.mono HB.out.size))
      clear hb
      go_wp2_with fail
      go_ret
      exact ⟨rfl, HB2.out⟩
end Go.Proofs.Ytjlcbfjcknkpnaa
