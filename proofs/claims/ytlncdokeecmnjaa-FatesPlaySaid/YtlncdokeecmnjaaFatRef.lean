/- The document's Of, the law's own, fates compared (the document's). -/
import Derived.Test.YtlncdokeecmnjaaFatWakes
set_option maxRecDepth 4000
namespace Go.Proofs.Ytlncdokeecmnjaa
open Go Go.RowKit
theorem size_rfat : (Try.prog.info? 34).map (·.size) = some 4 := by kernel_rfl
theorem and_mod (m j : Nat) (hj : j < 4) : m &&& 2 ^ j = (m % 16) &&& 2 ^ j := by
  apply Nat.eq_of_testBit_eq
  intro i
  rw [Nat.testBit_and, Nat.testBit_and, show 16 = 2 ^ 4 from rfl, Nat.testBit_mod_two_pow, Nat.testBit_two_pow]
  by_cases h : j = i
  · subst h; simp [hj]
  · simp [h]
theorem bit_at (m j : Nat) (hm : m < 9223372036854775808) (hj : j < 4) : fb (m : Int) ((2 ^ j : Nat) : Int) = (IntKind.i64.wrap (((m % 16) &&& 2 ^ j : Nat) : Int) != 0) := by
  have e : bits .and .i64 (m : Int) ((2 ^ j : Nat) : Int) = IntKind.i64.wrap ((m &&& 2 ^ j : Nat) : Int) := by
    show IntKind.i64.wrap ((BitVec.ofInt 64 (m : Int) &&& BitVec.ofInt 64 ((2 ^ j : Nat) : Int)).toNat : Int) = _
    congr 2
    rw [BitVec.toNat_and, BitVec.toNat_ofInt, BitVec.toNat_ofInt]
    have h2 : 2 ^ j ≤ 8 := by
      have : j = 0 ∨ j = 1 ∨ j = 2 ∨ j = 3 := by omega
      rcases this with rfl | rfl | rfl | rfl <;> decide
    generalize 2 ^ j = p at *
    rw [show ((m : Int) % ((2 ^ 64 : Nat) : Int)).toNat = m by omega, show ((p : Int) % ((2 ^ 64 : Nat) : Int)).toNat = p by omega]
  unfold fb
  rw [e, ← and_mod m j hj]
theorem bits_16 : ∀ r : Fin 16, ((((r.val : Int).tmod 2) == 1) = (IntKind.i64.wrap ((r.val &&& 2 ^ 0 : Nat) : Int) != 0)) ∧ ((((r.val : Int).tdiv 2).tmod 2 == 1) = (IntKind.i64.wrap ((r.val &&& 2 ^ 1 : Nat) : Int) != 0)) ∧ ((((r.val : Int).tdiv 4).tmod 2 == 1) = (IntKind.i64.wrap ((r.val &&& 2 ^ 2 : Nat) : Int) != 0)) ∧ (((r.val : Int).tdiv 8 == 1) = (IntKind.i64.wrap ((r.val &&& 2 ^ 3 : Nat) : Int) != 0)) := by decide +kernel
theorem own_fat (b0 b1 b2 b3 : Bool) (w : World) : Calls Try.prog 8 #[.agg (#[.bool b0, .bool b1, .bool b2, .bool b3])] w fun e w' => e = .returned (.agg (#[.bool b0, .bool b1, .bool b2, .bool b3])) ∧ Below w.heap.size w w' := by
  have HS := St.nil w noF
  go_enter Try.func8, Try.ntmps8
  go_upto_region 1 with (first | ((with_reducible refine wpList_plain ?_ ?_); exact rfl; intro KK hKK; refine wp_st_box HS 36 (.tmp 0) rfl _ rfl (#[.bool b0, .bool b1, .bool b2, .bool b3]) (rfl) (fun g1 W1 HSx => hKK _ _ ?_); clear hKK KK HS; have HS : St w noF [⟨g1, 36, #[.bool b0, .bool b1, .bool b2, .bool b3]⟩] W1 := HSx; clear HSx) | ((with_reducible refine wpList_plain ?_ ?_); exact rfl; intro KK hKK; refine wp_st_alloc HS 34 (#[.bool false, .bool false, .bool false, .bool false]) rfl (.agg (#[.bool false, .bool false, .bool false, .bool false])) (by kernel_rfl) (rfl) (fun g2 W2 HSx => hKK _ _ ?_); clear hKK KK HS; have HS : St w noF [⟨g1, 36, #[.bool b0, .bool b1, .bool b2, .bool b3]⟩, ⟨g2, 34, #[.bool false, .bool false, .bool false, .bool false]⟩] W2 := HSx; clear HSx))
  have c0 : W2.cell? ⟨g1, 0, none⟩ = some (.bool b0) := (HS.row 0 rfl).get rfl
  have c1 : W2.cell? ⟨g1, 1, none⟩ = some (.bool b1) := (HS.row 0 rfl).get rfl
  have c2 : W2.cell? ⟨g1, 2, none⟩ = some (.bool b2) := (HS.row 0 rfl).get rfl
  have c3 : W2.cell? ⟨g1, 3, none⟩ = some (.bool b3) := (HS.row 0 rfl).get rfl
  go_wp2_with (first | ((with_reducible refine wpList_plain ?_ ?_); exact rfl; intro KK hKK; refine wp_st_store HS 1 0 34 (.tmp 2) (.tmp 11) rfl rfl rfl (.agg (#[.bool b0, .bool b1, .bool b2, .bool b3])) rfl (by exact size_rfat) (Nat.le_refl 4) (by simp [Value.cells, Value.oneCell']) (#[.bool b0, .bool b1, .bool b2, .bool b3]) (by exact spl_agg _ _ _ rfl rfl) (fun W3 HSx => hKK _ _ ?_); clear hKK KK HS; have HS : St w noF [⟨g1, 36, #[.bool b0, .bool b1, .bool b2, .bool b3]⟩, ⟨g2, 34, #[.bool b0, .bool b1, .bool b2, .bool b3]⟩] W3 := HSx; clear HSx))
  refine bodyPost_ret (results_cell_row Try.results8 _ _ g2 34 (#[.bool b0, .bool b1, .bool b2, .bool b3]) (0, 0) _ rfl (HS.row 1 rfl) Try.underlying34 rfl (by exact size_rfat)) rfl ?_
  exact ⟨rfl, HS.below⟩
theorem rof_any (n : Int) (w : World) (hn : n < 9223372036854775808) : Calls Try.prog 16 #[.int .i64 n] w fun e w' => e = .returned (.agg (fatC n)) ∧ Below w.heap.size w w' := by
  by_cases h : n < 0
  · have hd : decide (n < 0) = true := decide_eq_true h
    rw [fatC_neg h]
    clear h hn
    have HS := St.nil w noF
    go_enter Try.func16, Try.ntmps16
    go_upto_region 1 with (first | ((with_reducible refine wpList_plain ?_ ?_); exact rfl; intro KK hKK; refine wp_st_alloc HS 34 (#[.bool false, .bool false, .bool false, .bool false]) rfl (.agg (#[.bool false, .bool false, .bool false, .bool false])) (by kernel_rfl) (rfl) (fun g2 W1 HSx => hKK _ _ ?_); clear hKK KK HS; have HS : St w noF [⟨g2, 34, #[.bool false, .bool false, .bool false, .bool false]⟩] W1 := HSx; clear HSx))
    go_wp2_with (first | ((with_reducible refine wpList_plain ?_ ?_); exact rfl; intro KK hKK; refine wp_st_store HS 0 0 34 (.tmp 2) (.tmp 5) rfl rfl rfl (.agg (#[.bool false, .bool false, .bool false, .bool false])) rfl (by exact size_rfat) (Nat.le_refl 4) (by simp [Value.cells, Value.oneCell']) (#[.bool false, .bool false, .bool false, .bool false]) (by exact spl_agg _ _ _ rfl rfl) (fun W2 HSx => hKK _ _ ?_); clear hKK KK HS; have HS : St w noF [⟨g2, 34, #[.bool false, .bool false, .bool false, .bool false]⟩] W2 := HSx; clear HSx))
    refine bodyPost_ret (results_cell_row Try.results16 _ _ g2 34 (#[.bool false, .bool false, .bool false, .bool false]) (0, 0) _ rfl (HS.row 0 rfl) Try.underlying34 rfl (by exact size_rfat)) rfl ?_
    exact ⟨rfl, HS.below⟩
  · have hd : decide (n < 0) = false := decide_eq_false h
    rw [fatC_pos h]
    obtain ⟨m, rfl⟩ := Int.eq_ofNat_of_zero_le (show 0 ≤ n by omega)
    obtain ⟨r, hr⟩ : ∃ r, m % 16 = r := ⟨_, rfl⟩
    have hm : ((m : Nat) : Int).tmod 16 = (r : Int) := by rw [Int.tmod_eq_emod_of_nonneg (by omega)]; omega
    have hwr : IntKind.i64.wrap (r : Int) = (r : Int) := i64_id _ (by omega) (by omega)
    have hr16 : r < 16 := by omega
    obtain ⟨f0, f1, f2, f3⟩ := bits_16 ⟨r, hr16⟩
    simp only at f0 f1 f2 f3
    have e0 := bit_at m 0 (by omega) (by decide)
    have e1 := bit_at m 1 (by omega) (by decide)
    have e2 := bit_at m 2 (by omega) (by decide)
    have e3 := bit_at m 3 (by omega) (by decide)
    rw [hr] at e0 e1 e2 e3
    rw [← f0] at e0
    rw [← f1] at e1
    rw [← f2] at e2
    rw [← f3] at e3
    have g0 : fb (m : Int) 1 = ((r : Int).tmod 2 == 1) := e0
    have g1 : fb (m : Int) 2 = (((r : Int).tdiv 2).tmod 2 == 1) := e1
    have g2 : fb (m : Int) 4 = (((r : Int).tdiv 4).tmod 2 == 1) := e2
    have g3 : fb (m : Int) 8 = ((r : Int).tdiv 8 == 1) := e3
    obtain ⟨q1, hq1⟩ : ∃ q1 : Nat, r / 2 = q1 := ⟨_, rfl⟩
    obtain ⟨q2, hq2⟩ : ∃ q2 : Nat, r / 4 = q2 := ⟨_, rfl⟩
    obtain ⟨q3, hq3⟩ : ∃ q3 : Nat, r / 8 = q3 := ⟨_, rfl⟩
    have d1 : (r : Int).tdiv 2 = (q1 : Int) := by rw [Int.tdiv_eq_ediv_of_nonneg (by omega)]; omega
    have d2 : (r : Int).tdiv 4 = (q2 : Int) := by rw [Int.tdiv_eq_ediv_of_nonneg (by omega)]; omega
    have d3 : (r : Int).tdiv 8 = (q3 : Int) := by rw [Int.tdiv_eq_ediv_of_nonneg (by omega)]; omega
    rw [d1] at g1
    rw [d2] at g2
    rw [d3] at g3
    have w1 : IntKind.i64.wrap (q1 : Int) = (q1 : Int) := i64_id _ (by omega) (by omega)
    have w2 : IntKind.i64.wrap (q2 : Int) = (q2 : Int) := i64_id _ (by omega) (by omega)
    have w3 : IntKind.i64.wrap (q3 : Int) = (q3 : Int) := i64_id _ (by omega) (by omega)
    have m0 : IntKind.i64.wrap ((r : Int).tmod 2) = (r : Int).tmod 2 := by rw [Int.tmod_eq_emod_of_nonneg (by omega)]; exact i64_id _ (by omega) (by omega)
    have m1 : IntKind.i64.wrap ((q1 : Int).tmod 2) = (q1 : Int).tmod 2 := by rw [Int.tmod_eq_emod_of_nonneg (by omega)]; exact i64_id _ (by omega) (by omega)
    have m2 : IntKind.i64.wrap ((q2 : Int).tmod 2) = (q2 : Int).tmod 2 := by rw [Int.tmod_eq_emod_of_nonneg (by omega)]; exact i64_id _ (by omega) (by omega)
    have t0 : (r : Int).tmod 2 = (r : Int) % 2 := Int.tmod_eq_emod_of_nonneg (by omega)
    have t1 : (q1 : Int).tmod 2 = (q1 : Int) % 2 := Int.tmod_eq_emod_of_nonneg (by omega)
    have t2 : (q2 : Int).tmod 2 = (q2 : Int) % 2 := Int.tmod_eq_emod_of_nonneg (by omega)
    rw [t0] at g0 m0
    rw [t1] at g1 m1
    rw [t2] at g2 m2
    rw [g0, g1, g2, g3]
    clear e0 e1 e2 e3 f0 f1 f2 f3 g0 g1 g2 g3 hq1 hq2 hq3 h hn hr hr16
    obtain ⟨b0, h0⟩ : ∃ b0, ((r : Int) % 2 == 1) = b0 := ⟨_, rfl⟩
    obtain ⟨b1, h1⟩ : ∃ b1, ((q1 : Int) % 2 == 1) = b1 := ⟨_, rfl⟩
    obtain ⟨b2, h2⟩ : ∃ b2, ((q2 : Int) % 2 == 1) = b2 := ⟨_, rfl⟩
    obtain ⟨b3, h3⟩ : ∃ b3, ((q3 : Int) == 1) = b3 := ⟨_, rfl⟩
    rw [h0, h1, h2, h3]
    have HS := St.nil w noF
    go_enter Try.func16, Try.ntmps16
    go_upto_region 1 with (first | ((with_reducible refine wpList_plain ?_ ?_); exact rfl; intro KK hKK; refine wp_st_alloc HS 34 (#[.bool false, .bool false, .bool false, .bool false]) rfl (.agg (#[.bool false, .bool false, .bool false, .bool false])) (by kernel_rfl) (rfl) (fun g2 W1 HSx => hKK _ _ ?_); clear hKK KK HS; have HS : St w noF [⟨g2, 34, #[.bool false, .bool false, .bool false, .bool false]⟩] W1 := HSx; clear HSx))
    go_wp2_with (first | ((with_reducible refine wpList_plain ?_ ?_); exact rfl; intro KK hKK; refine wp_st_store HS 0 0 34 (.tmp 2) (.tmp 22) rfl rfl rfl (.agg (#[.bool b0, .bool b1, .bool b2, .bool b3])) rfl (by exact size_rfat) (Nat.le_refl 4) (by simp [Value.cells, Value.oneCell']) (#[.bool b0, .bool b1, .bool b2, .bool b3]) (by exact spl_agg _ _ _ rfl rfl) (fun W5 HSx => hKK _ _ ?_); clear hKK KK HS; have HS : St w noF [⟨g2, 34, #[.bool b0, .bool b1, .bool b2, .bool b3]⟩] W5 := HSx; clear HSx))
    refine bodyPost_ret (results_cell_row Try.results16 _ _ g2 34 (#[.bool b0, .bool b1, .bool b2, .bool b3]) (0, 0) _ rfl (HS.row 0 rfl) Try.underlying34 rfl (by exact size_rfat)) rfl ?_
    exact ⟨rfl, HS.below⟩
end Go.Proofs.Ytlncdokeecmnjaa
