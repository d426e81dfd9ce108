/- The statement PoolAll: its walk. -/
import Derived.Test.YtkfccdjeohbngaaPlApart
import Derived.Test.YtkfccdjeohbngaaLowC
set_option maxRecDepth 4000
namespace Go.Proofs.Ytkfccdjeohbngaa
open Go Go.RowKit
def maskU (n : Nat) : BitVec 16 := BitVec.ofNat 16 (2 ^ n - 1)
def runL (nx K : Nat) : List Int := (List.range K).map fun j => ((nx + j : Nat) : Int)
theorem mask_all : ∀ nx : Fin 13, ∀ K : Fin 5, (freeL (maskU nx.val)).length = 12 - nx.val ∧ (nx.val + K.val ≤ 12 → (freeL (maskU nx.val)).take K.val = runL nx.val K.val ∧ useL (maskU nx.val) (runL nx.val K.val) = maskU (nx.val + K.val)) := by decide +kernel
theorem mask_none (nx K : Nat) (hn : nx ≤ 12) (hK1 : 1 ≤ K) (hK4 : K ≤ 4) (h : 12 - nx < K) : takeE (maskU nx) K = 18 ∧ takeV (maskU nx) K = [] := by
  have hf := (mask_all ⟨nx, by omega⟩ ⟨K, by omega⟩).1
  simp only at hf
  unfold takeE takeV
  rw [if_neg (by omega), if_pos (by rw [hf]; omega), if_pos (.inr (.inr (by rw [hf]; omega)))]
  exact ⟨rfl, rfl⟩
theorem mask_some (nx K : Nat) (hK1 : 1 ≤ K) (hK4 : K ≤ 4) (h : nx + K ≤ 12) : takeE (maskU nx) K = 0 ∧ takeV (maskU nx) K = runL nx K ∧ useL (maskU nx) (runL nx K) = maskU (nx + K) := by
  have hf := mask_all ⟨nx, by omega⟩ ⟨K, by omega⟩
  simp only at hf
  have h2 := hf.2 h
  unfold takeE takeV
  rw [if_neg (by omega), if_neg (by rw [hf.1]; omega), if_neg (by rw [hf.1]; omega)]
  exact ⟨rfl, h2.1, h2.2⟩
theorem mask_free (n : Nat) (h : n ≤ 12) : (freeL (maskU n)).length = 12 - n := (mask_all ⟨n, by omega⟩ 0).1
theorem mask_shl : ∀ n : Fin 13, IntKind.u16.wrap (IntKind.u16.wrap ((2 : Int) ^ n.val) - 1) = hd (maskU n.val) ∧ IntKind.u64.wrap (n.val : Int) = n.val ∧ min n.val 16 = n.val := by decide +kernel
set_option maxHeartbeats 3200000 in
theorem plall_walk (A : Option Addr) (c : Nat) (q : List (BitVec 8)) (w : World) (hs : Slice w (.slice A q.length c) q) (_ : A = none → c = 0) (_ : q.length ≤ maxLen) :
    Calls Try.prog 5 #[.slice A q.length c] w fun e w' => e = .returned (.bool true) ∧ Below w.heap.size w w' := by
  obtain ⟨n, hn⟩ : ∃ n, q.length = n := ⟨_, rfl⟩
  rw [hn] at hs ⊢
  have HN := Lib.hid hn
  have HS0 := Lib.hid hs
  clear hn hs
  by_cases hbig : 30 < n
  · have hd : decide (30 < (n : Int)) = true := decide_eq_true (by omega)
    have hdn : decide (30 < n) = true := decide_eq_true (by omega)
    clear hbig
    go_enter Try.func5, Try.ntmps5
    go_wp2_with fail
    refine (plwakes_any w).mono ?_
    rintro x9 w99 ⟨rfl, hb9⟩
    go_wp2_with fail
    go_ret
    exact ⟨rfl, (Below.refl w.heap.size w).trans (hb9.mono (Below.refl w.heap.size w).size)⟩
  have hd : decide (30 < (n : Int)) = false := decide_eq_false (by omega)
  have hdn : decide (30 < n) = false := decide_eq_false (by omega)
  have HN30 : Hid (n ≤ 30) := Lib.hid (by omega)
  go_enter Try.func5, Try.ntmps5
  go_wp2_with fail
  clear hd hdn hbig
  go_loopw [3, 4, 5] (fun v m i wr => ∃ (k nx : Nat) (L : List Vl), k ≤ n ∧ i = .int .i64 k ∧ m = .int .i64 nx ∧ 1 ≤ nx ∧ nx ≤ 12 ∧ L.length ≤ k ∧ (∀ x ∈ L, x.2.length ≤ 1000000) ∧ usedV L = maskU nx ∧ OV w.heap.size wr v L ∧ Below w.heap.size w wr) (fun _ _ i _ => n - (intOf i).toNat)
  case atStart => exact ⟨0, 1, [], by omega, rfl, rfl, by omega, by omega, by simp, by simp, by decide, OV.nil _ _, Below.refl _ _⟩
  case round =>
    obtain ⟨k, nx, L, hk, rfl, rfl, hnx1, hnx12, hLL, hL4, hUL, hO, hb⟩ := hrel
    obtain ⟨A3, N3, c3, rfl, hN3, _⟩ := OV.form2 hO
    have HO := Lib.hid hO
    have HB := Lib.hid hb
    have HLL := Lib.hid hLL
    have HL4 := Lib.hid hL4
    have HUL := Lib.hid hUL
    have HN3 := Lib.hid hN3
    clear hO hb hLL hL4 hUL hN3
    by_cases hlt : k < n
    · obtain ⟨gb, ob, hA, hba, _⟩ := slice_bat HS0.out (by rw [HN.out]; omega)
      subst hA
      obtain ⟨x, hx⟩ : ∃ x, q.getD k 0#8 = x := ⟨_, rfl⟩
      obtain ⟨O, hOk⟩ : ∃ O, ob + k = O := ⟨_, rfl⟩
      have hcell : wr.cell? ⟨gb, O, none⟩ = some (.int .u8 (bd x)) := by
        have h := hba.get k (by rw [HN.out]; exact hlt)
        rw [hx, hOk] at h
        exact (HB.out.cell (p := ⟨gb, O, none⟩) (hba.lt)).trans h
      obtain ⟨K, hK⟩ : ∃ K : Nat, 1 + (bd x).tmod 4 = K := ⟨(1 + (bd x).tmod 4).toNat, by have := bd_lo x; rw [Int.tmod_eq_emod_of_nonneg (by omega)]; omega⟩
      have hK14 : 1 ≤ K ∧ K ≤ 4 := by have := bd_lo x; have := bd_hi x; rw [Int.tmod_eq_emod_of_nonneg (by omega)] at hK; omega
      have hwx : IntKind.i64.wrap (bd x) = bd x := by have := bd_lo x; have := bd_hi x; rw [IntKind.wrap_i64]; omega
      have hwK : IntKind.i64.wrap (K : Int) = K := by rw [IntKind.wrap_i64]; omega
      have HK14 := Lib.hid hK14
      clear hx hK14
      have T2 := take_any K A3 N3 c3 L wr (HO.out.vols (by have := HLL.out; unfold maxLen; have := HN30.out; omega)) (by have := HLL.out; have := HN3.out; have := HN30.out; omega) HL4.out (by have := HK14.out; omega)
      rw [HUL.out] at T2
      have hk30 : k < 30 := by have := HN30.out; omega
      have hk0 : (0 : Int) ≤ (k : Int) := by omega
      have hk1 : (k : Int) < (n : Int) := by omega
      have hwn : IntKind.i64.wrap (12 - (nx : Int)) = 12 - nx := by rw [IntKind.wrap_i64]; omega
      by_cases hfk : 12 - nx < K
      · obtain ⟨hE, hV⟩ := mask_none nx K hnx12 (by have := HK14.out; omega) (by have := HK14.out; omega) (by omega)
        rw [hE, hV] at T2
        have hd2 : decide (12 - (nx : Int) < (K : Int)) = true := decide_eq_true (by omega)
        clear hE hV hfk
        go_wp2_with fail
        refine T2.mono ?_
        rintro e w2 ⟨v2, rfl, ho, hb⟩
        obtain ⟨Q, p, rfl, _⟩ := own_slice_form ho
        have HB2 := Lib.hid (HB.out.trans (hb.mono HB.out.size))
        have HO2 := Lib.hid (HO.out.call hb HB.out.size)
        clear ho hb T2 hcell
        go_wp2_with fail
        exact ⟨⟨k + 1, nx, L, by omega, by go_num, by first | rfl | trivial, hnx1, hnx12, by have := HLL.out; omega, HL4.out, HUL.out, HO2.out, HB2.out⟩, by simp [intOf]; omega⟩
      obtain ⟨hE, hV, hU⟩ := mask_some nx K (by have := HK14.out; omega) (by have := HK14.out; omega) (by omega)
      obtain ⟨R, hR⟩ : ∃ R, runL nx K = R := ⟨_, rfl⟩
      have hRL : R.length = K := by rw [← hR]; simp [runL]
      have HRg : Hid (∀ j y, R[j]? = some y → y = ((nx + j : Nat) : Int)) := Lib.hid fun j y hy => by
        rw [← hR] at hy
        unfold runL at hy
        rw [List.getElem?_map] at hy
        obtain ⟨i, hi, rfl⟩ := Option.map_eq_some_iff.1 hy
        have hj := (List.getElem?_eq_some_iff.1 hi).1
        rw [List.getElem?_range (by simpa using hj)] at hi
        injection hi with hi
        rw [hi]
      rw [hR] at hU hV
      rw [hE, hV, hRL] at T2
      have HUU := Lib.hid hU
      have HVL := Lib.hid hRL
      obtain ⟨M, hM⟩ : ∃ M, nx + K = M := ⟨_, rfl⟩
      have HM := Lib.hid hM
      have HM12 : Hid (2 ≤ M ∧ M ≤ 12) := Lib.hid (by have := HK14.out; omega)
      rw [hM] at HUU
      have HVB : Hid (∀ y ∈ R, -9223372036854775808 ≤ y ∧ y < 9223372036854775808) := Lib.hid fun y hy => by
        obtain ⟨j, hj, e⟩ := List.getElem_of_mem hy
        have := HRg.out j y (by rw [List.getElem?_eq_getElem hj, e])
        rw [hRL] at hj
        have := HK14.out
        omega
      have hd2 : decide (12 - (nx : Int) < (K : Int)) = false := decide_eq_false (by omega)
      clear hE hV hU hRL hR hM hfk
      go_wp2_with fail
      refine T2.mono ?_
      rintro e W2 ⟨v2, rfl, ho, hb⟩
      obtain ⟨Q, p, rfl, _⟩ := own_slice_form ho
      have HRO := Lib.hid ho
      have HB2 := Lib.hid (HB.out.trans (hb.mono HB.out.size))
      have HIA := Lib.hid (ints_own ho HVB.out)
      have HIV : Hid (InV w.heap.size W2 Q p R) := Lib.hid (.inr ⟨own_base (by rw [HVL.out]; exact ho) HB.out.size, HVB.out⟩)
      have HO2 := Lib.hid (HO.out.call hb HB.out.size)
      clear ho hb T2 hcell
      go_wp2_with fail
      clear hd2
      go_loopw [9] (fun i wr' => ∃ j : Nat, j ≤ K ∧ i = .int .i64 j ∧ W2 = wr') (fun i _ => K - (intOf i).toNat)
      case atStart => exact ⟨0, by omega, rfl, rfl⟩
      case round =>
        obtain ⟨j, hj, rfl, rfl⟩ := hrel
        have hj5 : j < 5 := by have := HK14.out; omega
        by_cases hjK : j < K
        · obtain ⟨gt, ot, y, hy, hQ, hgb, hcy, _⟩ := ints_get HIA.out (k := j) (by rw [HVL.out]; exact hjK)
          have hyb := HRg.out j y hy
          subst hyb hQ
          obtain ⟨O2, hO2⟩ : ∃ O2, ot + j = O2 := ⟨_, rfl⟩
          rw [hO2] at hcy
          have hj0 : (0 : Int) ≤ (j : Int) := by omega
          have hj1 : (j : Int) < (K : Int) := by omega
          have hwa : IntKind.i64.wrap ((nx : Int) + (j : Int)) = ((nx + j : Nat) : Int) := by rw [IntKind.wrap_i64]; omega
          clear hy
          go_wp2_with fail
          refine ⟨⟨j + 1, by omega, by go_num, by first | rfl | trivial⟩, by simp [intOf]; omega⟩
        · obtain rfl : j = K := by omega
          have hj1 : ¬ ((j : Int) < (j : Int)) := by omega
          have hwa : IntKind.i64.wrap ((nx : Int) + (j : Int)) = (M : Int) := by have := HM.out; have := HM12.out; rw [IntKind.wrap_i64]; omega
          have HA3 : Hid (Below w.heap.size w (W2.alloc (.cells #[.string ⟨#[97]⟩, .slice Q j p] 42))) := Lib.hid (HB2.out.alloc HB2.out.size _)
          have HO3 : Hid (OV w.heap.size (W2.alloc (.cells #[.string ⟨#[97]⟩, .slice Q j p] 42)) (.slice A3 N3 c3) L) := Lib.hid (HO2.out.call ((Below.refl _ _).alloc (Nat.le_refl _) _) HB2.out.size)
          have HLV : Hid (VolsIn w.heap.size (W2.alloc (.cells #[.string ⟨#[97]⟩, .slice Q j p] 42)) (some ⟨W2.heap.size, 0, none⟩) 1 1 [(⟨#[97]⟩, R)]) := Lib.hid (by
            have h2 := vol_lit (s := ⟨#[97]⟩) (Row.fresh W2 42 #[.string ⟨#[97]⟩, .slice Q R.length p]) (HIV.out.call ((Below.refl _ _).alloc (Nat.le_refl _) _) HB2.out.size) (by decide)
            rw [HVL.out] at h2
            exact h2)
          go_upto_region 22 with (first | ((with_reducible refine wpList_plain ?_ ?_); exact rfl; intro KK hKK; refine wp_append_vols (.tmp 68) (.tmp 71) rfl w.heap.size _ L rfl HO3.out _ 1 1 _ rfl HLV.out (by have := HLL.out; have := HN30.out; rw [List.length_singleton]; omega) HA3.out.size (fun v4 w4 ovx hbx => hKK _ _ ?_); clear hKK KK; have HB4 := Lib.hid (HA3.out.trans hbx); have HO4 := Lib.hid ovx; clear ovx hbx))
          all_goals
            obtain ⟨A7, N7, c7, rfl, hN7, _⟩ := OV.form2 HO4.out
            have HV7 := Lib.hid (HO4.out.vols (by have := HLL.out; rw [List.length_append, List.length_singleton]; unfold maxLen; omega))
            have HN7 : Hid (N7 ≤ k + 1) := Lib.hid (by have := HLL.out; rw [List.length_append, List.length_singleton] at hN7; omega)
            have HE7 : Hid (∀ y ∈ L ++ [((⟨#[97]⟩ : ByteArray), R)], y.2.length ≤ 1000000) := Lib.hid fun y hy => by
              rcases List.mem_append.1 hy with h | h
              · exact HL4.out y h
              · rw [List.mem_singleton.1 h]; show R.length ≤ 1000000; have := HVL.out; have := HK14.out; omega
            have HUN : Hid (usedV (L ++ [((⟨#[97]⟩ : ByteArray), R)]) = maskU M) := Lib.hid (by
              have : usedV (L ++ [((⟨#[97]⟩ : ByteArray), R)]) = useL (usedV L) R := by unfold usedV; rw [List.foldl_append]; rfl
              rw [this, HUL.out, HUU.out])
            have F8 := free_any A7 N7 c7 _ w4 HV7.out (by have := HN7.out; omega) HE7.out
            rw [HUN.out, mask_free M (by have := HM12.out; omega)] at F8
            have hwn2 : IntKind.i64.wrap (12 - (M : Int)) = ((12 - M : Nat) : Int) := by have := HM12.out; rw [IntKind.wrap_i64]; omega
            go_wp2_with fail
            refine F8.mono ?_
            rintro e W5 ⟨rfl, hb5⟩
            have U9 := used_any A7 N7 c7 _ W5 (HV7.below hb5 (Nat.le_refl _)) (by have := HN7.out; omega) HE7.out
            rw [HUN.out] at U9
            have HB5 := Lib.hid (HB4.out.trans (hb5.mono HB4.out.size))
            have HO5 := Lib.hid (HO4.out.call hb5 HB4.out.size)
            clear hb5 F8
            go_wp2_with fail
            refine U9.mono ?_
            rintro e W6 ⟨rfl, hb6⟩
            have HB6 := Lib.hid (HB5.out.trans (hb6.mono HB5.out.size))
            have HO6 := Lib.hid (HO5.out.call hb6 HB5.out.size)
            clear hb6 U9
            obtain ⟨hm, hm64, hmin⟩ := mask_shl ⟨M, by have := HM12.out; omega⟩
            simp only at hm hm64 hmin
            go_wp2_with fail
            refine ⟨⟨k + 1, M, L ++ [((⟨#[97]⟩ : ByteArray), R)], by omega, by go_num, by first | rfl | trivial, by have := HM12.out; omega, by have := HM12.out; omega, by have := HLL.out; rw [List.length_append, List.length_singleton]; omega, HE7.out, HUN.out, HO6.out, HB6.out⟩, by simp [intOf]; omega⟩
    · obtain rfl : k = n := by omega
      have hk1 : ¬ ((k : Int) < (k : Int)) := by omega
      go_wp2_with fail
      refine (plwakes_any wr).mono ?_
      rintro x9 w99 ⟨rfl, hb9⟩
      go_wp2_with fail
      go_ret
      exact ⟨rfl, HB.out.trans (hb9.mono HB.out.size)⟩
end Go.Proofs.Ytkfccdjeohbngaa
