/- The document's names: Good, Pad, Cut. -/
import Derived.Test.YtnepjcpbahhngaaDoorNamesPrg2
import Derived.Test.YtnepjcpbahhngaaDoorEqI
set_option maxRecDepth 4000
namespace Go.Proofs.YtnepjcpbahhngaaDoor
open Go Go.RowKit
attribute [local go_sem] strB_size
set_option maxHeartbeats 1600000 in
theorem refgoodn_any (l : List (List (BitVec 8))) (v : Value) (w : World) (hv : Strs w v l) (hl : l.length ≤ maxLen) :
    Calls Tryd.prog 12 #[v] w fun e w' => e = .returned (.bool (goodNs l)) ∧ w = w' := by
  obtain ⟨A, c, rfl⟩ : ∃ A c, v = .slice A l.length c := by obtain ⟨A, c, h, _⟩ := hv; exact ⟨A, c, h⟩
  obtain ⟨n, hn⟩ : ∃ n, l.length = n := ⟨_, rfl⟩
  have HN := Lib.hid hn
  have HM : Hid (∀ q ∈ l, q.length ≤ maxLen) := Lib.hid (by obtain ⟨_, _, _, _, _, hm, _⟩ := hv; exact hm)
  rw [hn] at hv hl ⊢
  have HV := Lib.hid hv
  unfold maxLen at hl
  obtain ⟨G, hG⟩ : ∃ G, goodNs l = G := ⟨_, rfl⟩
  have HY : Hid ((∀ j < n, goodN (l.getD j []) = true) → G = true) := Lib.hid fun h => by rw [← hG]; exact good_all (by rw [hn]; exact h)
  have HNO : Hid (∀ j < n, goodN (l.getD j []) = false → G = false) := Lib.hid fun j hj h => by rw [← hG]; exact good_no (by rw [hn]; exact hj) h
  rw [hG]
  clear hn hG hv
  go_enter Tryd.func12, Tryd.ntmps12
  go_wp2_with fail
  go_loopw [3] (fun i wr => ∃ k : Nat, k ≤ n ∧ i = .int .i64 k ∧ (∀ j < k, goodN (l.getD j []) = true) ∧ wr = w) (fun i _ => n - (intOf i).toNat)
  case atStart => exact ⟨0, by omega, rfl, fun j hj => by omega, rfl⟩
  case round =>
    obtain ⟨k, hk, rfl, hok, rfl⟩ := hrel
    have HOK := Lib.hid hok
    clear hok
    by_cases hlt : k < n
    · obtain ⟨q, hx⟩ : ∃ x, l[k]? = some x := ⟨_, List.getElem?_eq_getElem (by rw [HN.out]; exact hlt)⟩
      have HQD : Hid (l.getD k [] = q) := Lib.hid (by rw [List.getD_eq_getElem?_getD, hx]; rfl)
      have HQM : Hid (q.length ≤ maxLen) := Lib.hid (HM.out q (List.mem_of_getElem? hx))
      obtain ⟨b, o, rfl, hbw, hcell⟩ := strs_at HV.out hx
      obtain ⟨m, hm⟩ : ∃ m, q.length = m := ⟨_, rfl⟩
      have hk0 : (0 : Int) ≤ (k : Int) := by omega
      have hk1 : (k : Int) < (n : Int) := by omega
      have hkd : decide ((k : Int) < (n : Int)) = true := decide_eq_true hk1
      have HQ4 : Hid (goodN q = (decide (1 ≤ m) && decide (m ≤ 4) && q.all letter)) := Lib.hid (by rw [← hm]; rfl)
      clear hx hbw
      by_cases h1 : m < 1
      · have hd1 : decide ((m : Int) < 1) = true := decide_eq_true (by omega)
        have hG : G = false := HNO.out k hlt (by rw [HQD.out, HQ4.out, decide_eq_false (by omega)]; rfl)
        go_wp2_with fail
        go_ret
        first | exact ⟨rfl, rfl⟩ | (rw [hG]; exact ⟨rfl, rfl⟩)
      have hd1 : decide ((m : Int) < 1) = false := decide_eq_false (by omega)
      by_cases h4 : 4 < m
      · have hd2 : decide ((4 : Int) < (m : Int)) = true := decide_eq_true (by omega)
        have hG : G = false := HNO.out k hlt (by rw [HQD.out, HQ4.out, decide_eq_false (show ¬ m ≤ 4 by omega), Bool.and_false]; rfl)
        go_wp2_with fail
        go_ret
        first | exact ⟨rfl, rfl⟩ | (rw [hG]; exact ⟨rfl, rfl⟩)
      have hd2 : decide ((4 : Int) < (m : Int)) = false := decide_eq_false (by omega)
      have HQ5 : Hid (goodN q = q.all letter) := Lib.hid (by rw [HQ4.out, decide_eq_true (by omega), decide_eq_true (by omega)]; rfl)
      have HML : Hid (q.length = m) := Lib.hid hm
      have HG0 : Hid (goodN q = false → G = false) := Lib.hid fun h => HNO.out k hlt (by rw [HQD.out, h])
      have HIX : Hid (∀ w (j : Nat), j < m → (Instr.index 9 (.string (strB q)) (.int .i64 (j : Int))).run Tryd.prog w = .ok (.int .u8 (bd (q.getD j 0#8))) w) := Lib.hid fun w j hj => run_ix w 9 q .i64 j Tryd.underlying9 (by rw [hm]; exact hj)
      have hw : IntKind.i64.wrap ((k : Int) + 1) = ((k + 1 : Nat) : Int) := by rw [i64_id _ (by omega) (by omega)]; omega
      go_wp2_with fail
      clear hd1 hd2
      go_loopw [4] (fun i ws => ∃ j : Nat, j ≤ m ∧ i = .int .i64 j ∧ (∀ s < j, letter (q.getD s 0#8) = true) ∧ ws = wr) (fun i _ => m - (intOf i).toNat)
      case atStart => exact ⟨0, by omega, rfl, fun j hj => by omega, rfl⟩
      case round =>
        obtain ⟨j, hj, rfl, hok, rfl⟩ := hrel
        have HOJ := Lib.hid hok
        clear hok
        by_cases hjm : j < m
        · have hix := fun w => HIX.out w j hjm
          have hj0 : decide ((j : Int) < (m : Int)) = true := decide_eq_true (by omega)
          have hj1 : (j : Int) < (m : Int) := by omega
          have hj2 : (0 : Int) ≤ (j : Int) := by omega
          obtain ⟨x, hx⟩ : ∃ x, q.getD j 0#8 = x := ⟨_, rfl⟩
          have HX := Lib.hid hx
          rw [hx] at hix
          clear hx
          by_cases h97 : bd x < 97
          · have hd1 : decide (bd x < 97) = true := decide_eq_true h97
            have hG : G = false := HG0.out (by rw [HQ5.out]; exact all_no (by rw [HML.out]; exact hjm) (by rw [HX.out]; unfold letter; rw [decide_eq_false (by omega)]; rfl))
            go_wp2_with fail
            go_ret
            first | exact ⟨rfl, rfl⟩ | (rw [hG]; exact ⟨rfl, rfl⟩)
          have hd1 : decide (bd x < 97) = false := decide_eq_false h97
          by_cases h122 : 122 < bd x
          · have hd2 : decide (122 < bd x) = true := decide_eq_true h122
            have hG : G = false := HG0.out (by rw [HQ5.out]; exact all_no (by rw [HML.out]; exact hjm) (by rw [HX.out]; unfold letter; rw [decide_eq_false (show ¬ bd x ≤ 122 by omega), Bool.and_false]))
            go_wp2_with fail
            go_ret
            first | exact ⟨rfl, rfl⟩ | (rw [hG]; exact ⟨rfl, rfl⟩)
          have hd2 : decide (122 < bd x) = false := decide_eq_false h122
          have hwj : IntKind.i64.wrap ((j : Int) + 1) = ((j + 1 : Nat) : Int) := by rw [i64_id _ (by omega) (by omega)]; omega
          go_wp2_with fail
          refine ⟨⟨j + 1, by omega, by go_num, fun s hs => ?_, trivial⟩, by simp [intOf]; omega⟩
          rcases Nat.lt_succ_iff_lt_or_eq.1 hs with h | h
          · exact HOJ.out s h
          · subst h; rw [HX.out]; unfold letter; rw [decide_eq_true (by omega), decide_eq_true (by omega)]; rfl
        · have hj0 : decide ((j : Int) < (m : Int)) = false := decide_eq_false (by omega)
          have HAL : Hid (q.all letter = true) := Lib.hid (all_of fun s hs => HOJ.out s (by rw [HML.out] at hs; omega))
          go_wp2_with fail
          refine ⟨⟨k + 1, by omega, by go_num, fun j hj => ?_, trivial⟩, by simp [intOf]; omega⟩
          rcases Nat.lt_succ_iff_lt_or_eq.1 hj with h | h
          · exact HOK.out j h
          · subst h; rw [HQD.out, HQ5.out]; exact HAL.out
    · have hkd : decide ((k : Int) < (n : Int)) = false := decide_eq_false (by omega)
      have hG : G = true := HY.out fun j hj => HOK.out j (by omega)
      go_wp2_with fail
      go_ret
      first | exact ⟨rfl, rfl⟩ | (rw [hG]; exact ⟨rfl, rfl⟩)
/- the first k bytes of a name laid -/
def padK (q : List (BitVec 8)) (k : Nat) : List (BitVec 8) := padN (q.take k)
theorem padK_zero (q : List (BitVec 8)) : padK q 0 = zer 4 := by unfold padK padN; rw [List.take_zero, List.nil_append, zer, List.take_replicate]; rfl
theorem padK_end (q : List (BitVec 8)) (k : Nat) (h : k = 4 ∨ q.length ≤ k) : padK q k = padN q := by
  rcases h with rfl | h
  · unfold padK padN
    rw [List.take_append, List.take_append, List.take_take, Nat.min_self, List.length_take]
    unfold zer
    rw [List.take_replicate, List.take_replicate]
    congr 2
    omega
  · unfold padK; rw [List.take_of_length_le h]
theorem padK_set (q : List (BitVec 8)) (k : Nat) (h : k < q.length) : (padK q k).set k (q.getD k 0#8) = padK q (k + 1) := by
  apply List.ext_getElem (by rw [List.length_set]; unfold padK; rw [length_padN, length_padN])
  intro i h1 h2
  have hi : i < 4 := by rw [List.length_set] at h1; unfold padK at h1; rw [length_padN] at h1; exact h1
  have g : ∀ k (hh : i < (padK q k).length), (padK q k)[i] = if i < k ∧ i < q.length then q.getD i 0#8 else 0#8 := fun k hh => by
    have e : padK q k = (q.take k ++ zer 4).take 4 := rfl
    rw [List.getElem_of_eq e, List.getElem_take]
    by_cases hc : i < k ∧ i < q.length
    · rw [if_pos hc, List.getElem_append_left (by rw [List.length_take]; omega), List.getElem_take, List.getD_eq_getElem?_getD, List.getElem?_eq_getElem hc.2]; rfl
    · rw [if_neg hc, List.getElem_append_right (by rw [List.length_take]; omega)]
      exact List.getElem_replicate ..
  rw [List.getElem_set, g _ (by simpa using h1), g]
  by_cases e : k = i
  · subst e; rw [if_pos rfl, if_pos ⟨by omega, h⟩]
  · rw [if_neg e]
    by_cases hc : i < k ∧ i < q.length
    · rw [if_pos hc, if_pos ⟨by omega, hc.2⟩]
    · rw [if_neg hc, if_neg (by omega)]
set_option maxHeartbeats 800000 in
theorem refpad_any (q : List (BitVec 8)) (w : World) (hm : q.length ≤ maxLen) :
    Calls Tryd.prog 14 #[.string (strB q)] w fun e w' => e = .returned (.agg (bs (padN q))) ∧ Below w.heap.size w w' := by
  obtain ⟨n, hn⟩ : ∃ n, q.length = n := ⟨_, rfl⟩
  have HN := Lib.hid hn
  have HMM := Lib.hid hm
  have HIX : Hid (∀ w (j : Nat), j < n → (Instr.index 9 (.string (strB q)) (.int .i64 (j : Int))).run Tryd.prog w = .ok (.int .u8 (bd (q.getD j 0#8))) w) := Lib.hid fun w j hj => run_ix w 9 q .i64 j Tryd.underlying9 (by rw [hn]; exact hj)
  have HS := St.nil w noF
  clear hm
  go_enter Tryd.func14, Tryd.ntmps14
  go_upto_region 3 with (first | ((with_reducible refine wpList_plain ?_ ?_); exact rfl; intro KK hKK; refine wp_st_alloc HS 23 (bs (zer 4)) rfl (.agg (bs (zer 4))) (by kernel_rfl) (rfl) (fun g2 W1 HSx => hKK _ _ ?_); clear hKK KK HS; have HS : St w noF [⟨g2, 23, bs (zer 4)⟩] W1 := HSx; clear HSx) | ((with_reducible refine wpList_plain ?_ ?_); exact rfl; intro KK hKK; refine wp_st_alloc HS 23 (bs (zer 4)) rfl (.agg (bs (zer 4))) (by kernel_rfl) (rfl) (fun g3 W2 HSx => hKK _ _ ?_); clear hKK KK HS; have HS : St w noF [⟨g2, 23, bs (zer 4)⟩, ⟨g3, 23, bs (zer 4)⟩] W2 := HSx; clear HSx))
  go_loopw [4] (fun i wr => ∃ k : Nat, k ≤ 4 ∧ k ≤ n ∧ i = .int .i64 k ∧ St w noF [⟨g2, 23, bs (zer 4)⟩, ⟨g3, 23, bs (padK q k)⟩] wr) (fun i _ => 4 - (intOf i).toNat)
  case atStart => exact ⟨0, by omega, by omega, rfl, by rw [padK_zero]; exact HS⟩
  case round =>
    clear HS
    obtain ⟨k, hk4, hkn, rfl, HS⟩ := hrel
    by_cases h4 : k < 4
    · have hd4 : decide ((k : Int) < 4) = true := decide_eq_true (by omega)
      by_cases hlt : k < n
      · have hdn : decide ((k : Int) < (n : Int)) = true := decide_eq_true (by omega)
        have hix := fun w => HIX.out w k hlt
        have hk0 : (0 : Int) ≤ (k : Int) := by omega
        have hk1 : (k : Int) < 4 := by omega
        have hw : IntKind.i64.wrap ((k : Int) + 1) = ((k + 1 : Nat) : Int) := by rw [i64_id _ (by omega) (by omega)]; omega
        have HPS := Lib.hid (padK_set q k (by rw [HN.out]; exact hlt))
        obtain ⟨x, hx⟩ : ∃ x, q.getD k 0#8 = x := ⟨_, rfl⟩
        rw [hx] at hix HPS
        clear hx
        have HFIT : Hid (k < (bs (padK q k)).size) := Lib.hid (by rw [size_bs]; unfold padK; rw [length_padN]; exact h4)
        go_wp2_with (first | ((with_reducible refine wpList_plain ?_ ?_); exact rfl; intro KK hKK; refine wp_st_put HS 1 k 5 (.tmp 19) (.tmp 18) rfl rfl rfl (.int .u8 (bd x)) rfl (by kernel_rfl) rfl rfl (HFIT.out) (bs (padK q (k + 1))) ((set_bs _ _ _).trans (congrArg bs HPS.out)) (fun W3 HSx => hKK _ _ ?_); clear hKK KK HS; have HS : St w noF [⟨g2, 23, bs (zer 4)⟩, ⟨g3, 23, bs (padK q (k + 1))⟩] W3 := HSx; clear HSx))
        exact ⟨⟨k + 1, by omega, by omega, by go_num, HS⟩, by simp [intOf]; omega⟩
      · have hdn : decide ((k : Int) < (n : Int)) = false := decide_eq_false (by omega)
        have HE := Lib.hid (padK_end q k (.inr (by rw [HN.out]; omega)))
        rw [HE.out] at HS
        go_wp2_with (first | ((with_reducible refine wpList_plain ?_ ?_); exact rfl; intro KK hKK; refine wp_st_load HS 1 0 23 (.tmp 3) rfl rfl rfl (bs (padN q)) (slab_whole _) _ Tryd.underlying23 rfl (by rw [size_bs, length_padN]; exact size_b4) (hKK _ _ ?_); clear hKK KK) | ((with_reducible refine wpList_plain ?_ ?_); exact rfl; intro KK hKK; refine wp_st_store HS 0 0 23 (.tmp 2) (.tmp 20) rfl rfl rfl (.agg (bs (padN q))) rfl (by rw [show Value.cells (.agg (bs (padN q))) = bs (padN q) from rfl, size_bs, length_padN]; exact size_b4) (by rw [show Value.cells (.agg (bs (padN q))) = bs (padN q) from rfl, size_bs, length_padN, size_bs, length_zer]; decide) (by exact one_bs _) (bs (padN q)) (spl_agg _ _ _ rfl (by rw [size_bs, size_bs, length_padN, length_zer])) (fun W4 HSx => hKK _ _ ?_); clear hKK KK HS; have HS : St w noF [⟨g2, 23, bs (padN q)⟩, ⟨g3, 23, bs (padN q)⟩] W4 := HSx; clear HSx))
        exact bodyPost_ret (v := .agg (bs (padN q))) (results_cell_row Tryd.results14 _ _ g2 23 (bs (padN q)) (0, 0) _ rfl (HS.row 0 rfl) Tryd.underlying23 rfl (by rw [size_bs, length_padN]; exact size_b4)) rfl ⟨rfl, HS.below⟩
    · have hd4 : decide ((k : Int) < 4) = false := decide_eq_false (by omega)
      have HE := Lib.hid (padK_end q k (.inl (by omega)))
      rw [HE.out] at HS
      go_wp2_with (first | ((with_reducible refine wpList_plain ?_ ?_); exact rfl; intro KK hKK; refine wp_st_load HS 1 0 23 (.tmp 3) rfl rfl rfl (bs (padN q)) (slab_whole _) _ Tryd.underlying23 rfl (by rw [size_bs, length_padN]; exact size_b4) (hKK _ _ ?_); clear hKK KK) | ((with_reducible refine wpList_plain ?_ ?_); exact rfl; intro KK hKK; refine wp_st_store HS 0 0 23 (.tmp 2) (.tmp 20) rfl rfl rfl (.agg (bs (padN q))) rfl (by rw [show Value.cells (.agg (bs (padN q))) = bs (padN q) from rfl, size_bs, length_padN]; exact size_b4) (by rw [show Value.cells (.agg (bs (padN q))) = bs (padN q) from rfl, size_bs, length_padN, size_bs, length_zer]; decide) (by exact one_bs _) (bs (padN q)) (spl_agg _ _ _ rfl (by rw [size_bs, size_bs, length_padN, length_zer])) (fun W4 HSx => hKK _ _ ?_); clear hKK KK HS; have HS : St w noF [⟨g2, 23, bs (padN q)⟩, ⟨g3, 23, bs (padN q)⟩] W4 := HSx; clear HSx))
      exact bodyPost_ret (v := .agg (bs (padN q))) (results_cell_row Tryd.results14 _ _ g2 23 (bs (padN q)) (0, 0) _ rfl (HS.row 0 rfl) Tryd.underlying23 rfl (by rw [size_bs, length_padN]; exact size_b4)) rfl ⟨rfl, HS.below⟩
end Go.Proofs.YtnepjcpbahhngaaDoor
