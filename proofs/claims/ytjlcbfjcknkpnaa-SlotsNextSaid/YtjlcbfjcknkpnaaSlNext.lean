/- The statement SlotsNext: its walk. -/
import Derived.Test.YtjlcbfjcknkpnaaSlotsRef
import Derived.Test.YtjlcbfjcknkpnaaSlShare
set_option maxRecDepth 4000
namespace Go.Proofs.Ytjlcbfjcknkpnaa
open Go Go.RowKit
theorem next_dist (p a : Nat) (_ : p < 4) : ∃ d : Nat, 1 ≤ d ∧ d ≤ 4 ∧ nextN p a = (a + d) % 4294967296 ∧ IntKind.u32.wrap ((nextN p a : Int) - (a : Int)) = (d : Int) ∧ ∀ k, 1 ≤ k → k < d → ¬ ((a + k) % 4294967296) % 4 = p := by
  refine ⟨(p + 4 - (a + 1) % 4) % 4 + 1, by omega, by omega, by unfold nextN; omega, ?_, fun k h1 h2 => by omega⟩
  rw [IntKind.wrap_u32']; unfold nextN; omega
set_option maxHeartbeats 400000 in
theorem slnext_walk (pl' n' a' : Int) (w : World) (hp' : (Lit.int .u8 pl').wf = true) (hn' : (Lit.int .u8 n').wf = true) (ha' : (Lit.int .u32 a').wf = true) :
    Calls Try.prog 5 #[.int .u8 pl', .int .u8 n', .int .u32 a'] w fun e w' => e = .returned (.bool true) ∧ Below w.heap.size w w' := by
  obtain ⟨pl, rfl, hpl⟩ := nat_u8 hp'
  obtain ⟨n, rfl, hn⟩ := nat_u8 hn'
  obtain ⟨a, rfl, ha⟩ := nat_u32 ha'
  clear hp' hn' ha'
  obtain ⟨p, hp⟩ : ∃ p, pl % 4 = p := ⟨_, rfl⟩
  have hp4 : p < 4 := by omega
  obtain ⟨d, hd1, hd4, hdt, hdw, hdk⟩ := next_dist p a hp4
  have HNX := Lib.hid (next_good p a hp4)
  have hm := next_mod p a hp4
  have ht32 : nextN p a < 4294967296 := by unfold nextN; omega
  obtain ⟨t, ht⟩ : ∃ t, nextN p a = t := ⟨_, rfl⟩
  rw [ht] at HNX hm hdw ht32
  have c1 : IntKind.i64.wrap (pl : Int) = (pl : Int) := i64_id _ (by omega) (by omega)
  have c2 : (pl : Int).tmod 4 = (p : Int) := by rw [Int.tmod_eq_emod_of_nonneg (by omega)]; omega
  have c3 : IntKind.i64.wrap (p : Int) = (p : Int) := i64_id _ (by omega) (by omega)
  have c4 : IntKind.i64.wrap (n : Int) = (n : Int) := i64_id _ (by omega) (by omega)
  have c5 : IntKind.u32.wrap (n : Int) = (n : Int) := by rw [wrap_u32n]; omega
  obtain ⟨n4, hn4⟩ : ∃ n4, 4 * n = n4 := ⟨_, rfl⟩
  have c6 : IntKind.u32.wrap (4 * (n : Int)) = (n4 : Int) := by rw [show 4 * (n : Int) = ((4 * n : Nat) : Int) by omega, wrap_u32n]; omega
  have e5 : (((t % 4 : Nat) : Int) == (p : Int)) = true := beq_iff_eq.2 (by omega)
  have HOW := Lib.hid (owner_any t ht32)
  have HM := Lib.hid hm
  have HT32 := Lib.hid ht32
  rw [hm] at HOW
  clear e5
  have e6 : decide ((d : Int) < 1) = false := decide_eq_false (by omega)
  have e6' : ¬ d < 1 := by omega
  have e7 : decide (4 < (d : Int)) = false := decide_eq_false (by omega)
  have HDK := Lib.hid hdk
  have HN4 := Lib.hid hn4
  have HD4 := Lib.hid hd4
  have HD1 := Lib.hid hd1
  clear hdk hn4 hd4 hd1 hdt ht hm ht32 hp
  go_enter Try.func5, Try.ntmps5
  go_wp2_with fail
  refine (HNX.out w).mono ?_
  rintro e w1 ⟨rfl, hb⟩
  have HB1 := Lib.hid hb
  clear hb HNX
  go_wp2_with fail
  refine (HOW.out w1).mono ?_
  rintro e w2 ⟨rfl, rfl⟩
  clear HOW
  go_wp2_with fail
  go_loopw [10] (fun i wr => ∃ k : Nat, 1 ≤ k ∧ k ≤ d ∧ i = .int .u32 k ∧ wr = w1) (fun i _ => d - (intOf i).toNat)
  case atStart => exact ⟨1, by omega, HD1.out, rfl, rfl⟩
  case round =>
    obtain ⟨k, hk1, hk, rfl, rfl⟩ := hrel
    have hk32 : k ≤ 4 := Nat.le_trans hk HD4.out
    by_cases hkd : k < d
    · have hd : decide ((k : Int) < (d : Int)) = true := decide_eq_true (by omega)
      obtain ⟨x, hx⟩ : ∃ x, (a + k) % 4294967296 = x := ⟨_, rfl⟩
      have hx32 : x < 4294967296 := by omega
      have hw : IntKind.u32.wrap ((a : Int) + (k : Int)) = (x : Int) := by rw [show (a : Int) + (k : Int) = ((a + k : Nat) : Int) by omega, wrap_u32n, hx]
      have hxp : ¬ x % 4 = p := by have := HDK.out k hk1 hkd; rwa [hx] at this
      have hb : (((x % 4 : Nat) : Int) == (p : Int)) = false := beq_eq_false_iff_ne.2 (by omega)
      have hw2 : IntKind.u32.wrap ((k : Int) + 1) = ((k + 1 : Nat) : Int) := by rw [show (k : Int) + 1 = ((k + 1 : Nat) : Int) by omega, wrap_u32n]; omega
      clear hx
      have C := owner_any x hx32 wr
      go_wp2_with fail
      refine C.mono ?_
      rintro e w2 ⟨rfl, rfl⟩
      clear C
      go_wp2_with fail
      exact ⟨⟨k + 1, by omega, by omega, by go_num, trivial⟩, by simp [intOf]; omega⟩
    · have hd : decide ((k : Int) < (d : Int)) = false := decide_eq_false (by omega)
      go_wp2_with fail
      go_loopw [11, 12] (fun u i wr => ∃ j x : Nat, j ≤ n ∧ i = .int .i64 j ∧ u = .int .u32 x ∧ x = (t + 4 * j) % 4294967296 ∧ Below w.heap.size w wr) (fun _ i _ => n - (intOf i).toNat)
      case atStart => exact ⟨0, t, by omega, rfl, rfl, by have := HT32.out; omega, HB1.out⟩
      case round =>
        obtain ⟨j, x, hj, rfl, rfl, hx, hb⟩ := hrel
        have HX := Lib.hid hx
        have HB := Lib.hid hb
        clear hx hb
        by_cases hjn : j < n
        · have hd : decide ((j : Int) < (n : Int)) = true := decide_eq_true (by omega)
          obtain ⟨y, hy⟩ : ∃ y, (x + 4) % 4294967296 = y := ⟨_, rfl⟩
          have hw : IntKind.u32.wrap ((x : Int) + 4) = (y : Int) := by rw [show (x : Int) + 4 = ((x + 4 : Nat) : Int) by omega, wrap_u32n, hy]
          have C := next_good p x hp4 wr
          rw [next_next p x (by have := HX.out; have := HM.out; omega), hy] at C
          have HY := Lib.hid hy
          clear hy
          have hw2 : IntKind.i64.wrap ((j : Int) + 1) = ((j + 1 : Nat) : Int) := by rw [i64_id _ (by omega) (by omega)]; omega
          go_wp2_with fail
          refine C.mono ?_
          rintro e w2 ⟨rfl, hb⟩
          have HB2 := Lib.hid (HB.out.trans (hb.mono HB.out.size))
          clear hb C HB
          go_wp2_with fail
          exact ⟨⟨j + 1, y, by omega, by go_num, rfl, by have := HX.out; have := HY.out; omega, HB2.out⟩, by simp [intOf]; omega⟩
        · have hd : decide ((j : Int) < (n : Int)) = false := decide_eq_false (by omega)
          have hw : IntKind.u32.wrap ((x : Int) - (t : Int)) = (n4 : Int) := by rw [IntKind.wrap_u32']; have := HX.out; have := HN4.out; have := HT32.out; omega
          go_wp2_with fail
          refine (slwakes_any wr).mono ?_
          rintro e w2 ⟨rfl, hb⟩
          have HB2 := Lib.hid (HB.out.trans (hb.mono HB.out.size))
          clear hb
          go_wp2_with fail
          go_ret
          exact ⟨rfl, HB2.out⟩
end Go.Proofs.Ytjlcbfjcknkpnaa
