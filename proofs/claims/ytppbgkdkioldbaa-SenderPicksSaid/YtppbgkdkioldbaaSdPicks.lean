/- The statement SenderPicks: its walk. -/
import Derived.Test.YtppbgkdkioldbaaSndWakes
import Derived.Test.YtppbgkdkioldbaaOpenN
set_option maxRecDepth 4000
namespace Go.Proofs.Ytppbgkdkioldbaa
open Go Go.RowKit
theorem pick_spec (u : BitVec 16) : (pickB u = false ∧ pickK u = 0 ∧ ∀ j < 12, u.getLsbD j = false) ∨ (pickB u = true ∧ pickK u = 0 ∧ u.getLsbD 0 = true ∧ ∀ j, 1 ≤ j → j < 12 → u.getLsbD j = false) ∨
    (pickB u = true ∧ 1 ≤ pickK u ∧ pickK u < 12 ∧ u.getLsbD (pickK u) = true ∧ ∀ j, 1 ≤ j → j < pickK u → u.getLsbD j = false) := by
  have H : ∀ n, n ≤ 12 → (∀ j, 1 ≤ j → j < n → u.getLsbD j = false) ∨ ∃ k, 1 ≤ k ∧ k < n ∧ u.getLsbD k = true ∧ ∀ j, 1 ≤ j → j < k → u.getLsbD j = false := by
    intro n
    induction n with
    | zero => exact fun _ => .inl (fun j _ h => by omega)
    | succ n ih =>
      intro hn
      rcases ih (by omega) with h | ⟨k, h1, h2, h3⟩
      · by_cases h0 : n = 0
        · exact .inl (fun j h1 h2 => by omega)
        cases hb : u.getLsbD n with
        | true => exact .inr ⟨n, by omega, by omega, hb, h⟩
        | false =>
          refine .inl fun j h1 h2 => ?_
          rcases Nat.lt_or_eq_of_le (Nat.le_of_lt_succ h2) with h3 | rfl
          · exact h j h1 h3
          · exact hb
      · exact .inr ⟨k, h1, by omega, h3⟩
  rcases H 12 (Nat.le_refl _) with h | ⟨k, h1, h2, h3, h4⟩
  · have hP := pick_no h
    cases h0 : u.getLsbD 0 with
    | true => exact .inr (.inl ⟨by unfold pickB; rw [hP, h0]; rfl, hP, rfl, h⟩)
    | false =>
      refine .inl ⟨by unfold pickB; rw [hP, h0]; rfl, hP, fun j hj => ?_⟩
      by_cases hj0 : j = 0
      · rw [hj0]; exact h0
      · exact h j (by omega) hj
  · have hP := pick_hit h1 h2 h3 h4
    refine .inr (.inr ⟨by unfold pickB; rw [hP, decide_eq_true (by omega : k ≠ 0)]; rfl, by rw [hP]; exact h1, by rw [hP]; exact h2, by rw [hP]; exact h3, by rw [hP]; exact h4⟩)
def lowM (u : BitVec 16) : BitVec 16 := u &&& 4095#16
theorem lowM_eq (u : BitVec 16) : (hd u).tmod 4096 = hd (lowM u) := by
  unfold hd lowM
  rw [BitVec.toNat_and, show (4095#16).toNat = 2 ^ 12 - 1 from rfl, Nat.and_two_pow_sub_one_eq_mod, Int.tmod_eq_emod_of_nonneg (Int.natCast_nonneg _)]
  omega
theorem lowM_bit (u : BitVec 16) (j : Nat) (h : 12 ≤ j) : (lowM u).getLsbD j = false := by
  unfold lowM
  rw [BitVec.getLsbD_and]
  have : (4095#16).getLsbD j = false := by
    by_cases h16 : j < 16
    · obtain rfl | rfl | rfl | rfl : j = 12 ∨ j = 13 ∨ j = 14 ∨ j = 15 := by omega
      all_goals rfl
    · exact BitVec.getLsbD_of_ge _ _ (by omega)
  rw [this, Bool.and_false]
theorem all_zero {u : BitVec 16} (h : ∀ j, 12 ≤ j → u.getLsbD j = false) (k : ∀ j < 12, u.getLsbD j = false) : u = 0#16 := by
  apply BitVec.eq_of_getLsbD_eq
  intro i _
  rw [BitVec.getLsbD_zero]
  by_cases hi : i < 12
  · exact k i hi
  · exact h i (by omega)
theorem one_bit {u : BitVec 16} (h : ∀ j, 12 ≤ j → u.getLsbD j = false) (h0 : u.getLsbD 0 = true) (k : ∀ j, 1 ≤ j → j < 12 → u.getLsbD j = false) : u = 1#16 := by
  apply BitVec.eq_of_getLsbD_eq
  intro i _
  rw [BitVec.getLsbD_one]
  by_cases hi0 : i = 0
  · rw [hi0, h0]; rfl
  · have : u.getLsbD i = false := by
      by_cases hi : i < 12
      · exact k i (by omega) hi
      · exact h i (by omega)
    rw [this]; simp [hi0]
theorem shl_fact : ∀ K : Fin 12, IntKind.u16.wrap ((2 : Int) ^ K.val) = hd (1#16 <<< K.val) ∧ IntKind.u64.wrap (K.val : Int) = K.val ∧ min K.val 16 = K.val := by decide +kernel
theorem xor_bit (u : BitVec 16) (K j : Nat) (hK : K < 12) : (u ^^^ 1#16 <<< K).getLsbD j = (u.getLsbD j ^^ decide (j = K)) := by
  rw [BitVec.getLsbD_xor, BitVec.getLsbD_shiftLeft, BitVec.getLsbD_one]
  congr 1
  by_cases h : j = K
  · subst h; simp; omega
  · by_cases h2 : j < K
    · simp [h, h2]
    · have : j - K ≠ 0 := by omega
      simp [h, this]
set_option maxHeartbeats 3200000 in
theorem sdpicks_walk (x : BitVec 16) (w : World) : Calls Try.prog 5 #[.int .u16 (hd x)] w fun e w' => e = .returned (.bool true) ∧ Below w.heap.size w w' := by
  have hlow := lowM_eq x
  have HBIT := Lib.hid (lowM_bit x)
  obtain ⟨u0, hu0⟩ : ∃ u0, lowM x = u0 := ⟨_, rfl⟩
  rw [hu0] at hlow HBIT
  clear hu0
  go_enter Try.func5, Try.ntmps5
  go_wp2_with fail
  go_loopw [3, 4, 5] (fun v t i wr => ∃ (k last : Nat) (u : BitVec 16), k ≤ 12 ∧ i = .int .i64 k ∧ v = .int .u16 (hd u) ∧ t = .int .i64 last ∧ last ≤ 11 ∧ (∀ j, 12 ≤ j → u.getLsbD j = false) ∧ ((k ≤ last ∧ ∀ j, 1 ≤ j → j ≤ last → u.getLsbD j = false) ∨ u = 0#16) ∧ w = wr) (fun _ _ i _ => 13 - (intOf i).toNat)
  case atStart => exact ⟨0, 0, u0, by omega, rfl, rfl, rfl, by omega, HBIT.out, .inl ⟨by omega, fun j h1 h2 => by omega⟩, rfl⟩
  case round =>
    obtain ⟨k, last, u, hk, rfl, rfl, rfl, hl, hb12, hor, rfl⟩ := hrel
    have hk13 : decide ((k : Int) < 13) = true := decide_eq_true (by omega)
    have C := pick_any u w
    have HB12 := Lib.hid hb12
    clear hlow HBIT
    rcases pick_spec u with ⟨h1, h2, h3⟩ | ⟨h1, h2, h3, h4⟩ | ⟨h1, h2, h3, h4, h5⟩
    · have hz := all_zero hb12 h3
      subst hz
      rw [h1, h2] at C
      rw [show hd 0#16 = 0 from rfl] at *
      clear h1 h2 h3 hb12 hor
      go_wp2_with fail
      refine C.mono ?_
      rintro e w2 ⟨rfl, rfl⟩
      clear C
      go_wp2_with fail
      refine (sndwakes_any w).mono ?_
      rintro e w9 ⟨rfl, hb9⟩
      go_wp2_with fail
      go_ret
      exact ⟨rfl, hb9⟩
    · have hz := one_bit hb12 h3 h4
      subst hz
      have hor2 := hor.resolve_right (by decide)
      rw [h1, h2] at C
      rw [show hd 1#16 = 1 from rfl] at *
      clear h1 h2 h3 h4 hb12 hor
      go_wp2_with fail
      refine C.mono ?_
      rintro e w2 ⟨rfl, rfl⟩
      clear C
      go_wp2_with fail
      refine ⟨⟨k + 1, 0, 0#16, by omega, by go_num, by first | rfl | trivial, by first | rfl | trivial, by omega, fun j _ => by simp, .inr rfl, by first | rfl | trivial⟩, by simp [intOf]; omega⟩
    · obtain ⟨K, hK⟩ : ∃ K, pickK u = K := ⟨_, rfl⟩
      rw [hK] at C h2 h3 h4 h5
      rw [h1] at C
      have hor2 : k ≤ last ∧ ∀ j, 1 ≤ j → j ≤ last → u.getLsbD j = false := hor.resolve_right (fun h => by rw [h] at h4; simp at h4)
      have hlK : last < K := by
        apply Decidable.byContradiction
        intro h
        have := hor2.2 K h2 (by omega)
        rw [h4] at this
        cases this
      obtain ⟨hs1, hs2, hs3⟩ := shl_fact ⟨K, h3⟩
      simp only at hs1 hs2 hs3
      have hsh := bit_shrP u K
      rw [h4] at hsh
      have hsh : bits .and .u16 (hd u / (2 : Int) ^ K) 1 = 1 := hsh
      have hxor := xor_hd u (1#16 <<< K)
      have HX := Lib.hid (fun j => xor_bit u K j h3)
      obtain ⟨v, hv⟩ : ∃ v, u ^^^ 1#16 <<< K = v := ⟨_, rfl⟩
      obtain ⟨z, hz⟩ : ∃ z, (1#16 <<< K) = z := ⟨_, rfl⟩
      rw [hv] at hxor HX
      rw [hz] at hxor hs1
      have H5 := Lib.hid h5
      have H4 := Lib.hid h4
      have hkl := hor2.1
      have hK0 : (0 : Int) ≤ (K : Int) := by omega
      have hd0 : decide ((K : Int) < 0) = false := decide_eq_false (by omega)
      have hd12 : decide ((12 : Int) ≤ (K : Int)) = false := decide_eq_false (by omega)
      have hdl : decide ((K : Int) ≤ (last : Int)) = false := decide_eq_false (by omega)
      have hne : (K : Int) ≠ 0 := by omega
      clear hK h1 h4 h5 hor hor2 hb12 hv hz
      go_wp2_with fail
      refine C.mono ?_
      rintro e w2 ⟨rfl, rfl⟩
      clear C
      go_wp2_with fail
      refine ⟨⟨k + 1, K, v, by omega, by go_num, by first | rfl | trivial, by first | rfl | trivial, by omega, fun j hj => by rw [HX.out, HB12.out j hj, decide_eq_false (by omega)]; rfl, .inl ⟨by omega, fun j h1 h2 => ?_⟩, by first | rfl | trivial⟩, by simp [intOf]; omega⟩
      rw [HX.out]
      by_cases hj : j = K
      · rw [hj, H4.out, decide_eq_true rfl]; rfl
      · rw [H5.out j h1 (by omega), decide_eq_false hj]; rfl
theorem sdpicks_n (n : Int) (w : World) (hn : (Lit.int .u16 n).wf = true) : Calls Try.prog 5 #[.int .u16 n] w fun e w' => e = .returned (.bool true) ∧ Below w.heap.size w w' := by
  obtain ⟨m, rfl, hm⟩ := nat_u16 hn
  have e : (m : Int) = hd (BitVec.ofNat 16 m) := by unfold hd; rw [BitVec.toNat_ofNat]; omega
  rw [e]
  exact sdpicks_walk _ w
end Go.Proofs.Ytppbgkdkioldbaa
