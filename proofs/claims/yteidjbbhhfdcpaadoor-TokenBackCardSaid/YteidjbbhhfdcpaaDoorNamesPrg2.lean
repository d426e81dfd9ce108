/- The program's names: Good, Pad, Cut; strings.TrimRight of one sign. -/
import Derived.Test.YteidjbbhhfdcpaaDoorNamesPrg
import Derived.Test.YteidjbbhhfdcpaaDoorSt
set_option maxRecDepth 4000
namespace Go.Proofs.YteidjbbhhfdcpaaDoor
open Go Go.RowKit
attribute [local go_sem] strB_size
theorem good_all {l : List (List (BitVec 8))} (h : ∀ j < l.length, goodN (l.getD j []) = true) : goodNs l = true := by
  unfold goodNs
  rw [List.all_eq_true]
  intro x hx
  obtain ⟨j, hj, rfl⟩ := List.getElem_of_mem hx
  have := h j hj
  rwa [List.getD_eq_getElem?_getD, List.getElem?_eq_getElem hj] at this
theorem good_no {l : List (List (BitVec 8))} {j : Nat} (hj : j < l.length) (h : goodN (l.getD j []) = false) : goodNs l = false := by
  unfold goodNs
  rw [List.all_eq_false]
  rw [List.getD_eq_getElem?_getD, List.getElem?_eq_getElem hj] at h
  exact ⟨l[j], List.getElem_mem hj, by rw [show goodN l[j] = false from h]; decide⟩
set_option maxHeartbeats 800000 in
theorem good_any (l : List (List (BitVec 8))) (v : Value) (w : World) (hv : Strs w v l) (hl : l.length ≤ maxLen) :
    Calls Tryd.prog 25 #[v] w fun e w' => e = .returned (.bool (goodNs l)) ∧ Below w.heap.size w w' := by
  obtain ⟨A, c, rfl⟩ : ∃ A c, v = .slice A l.length c := by obtain ⟨A, c, h, _⟩ := hv; exact ⟨A, c, h⟩
  obtain ⟨n, hn⟩ : ∃ n, l.length = n := ⟨_, rfl⟩
  have HN := Lib.hid hn
  have HM : Hid (∀ q ∈ l, q.length ≤ maxLen) := Lib.hid (by obtain ⟨_, _, _, _, _, hm, _⟩ := hv; exact hm)
  rw [hn] at hv hl ⊢
  have HV := Lib.hid hv
  unfold maxLen at hl
  obtain ⟨G, hG⟩ : ∃ G, goodNs l = G := ⟨_, rfl⟩
  have HY : Hid ((∀ j < n, goodN (l.getD j []) = true) → G = true) := Lib.hid fun h => by rw [← hG]; exact good_all (by rw [hn]; exact h)
  have HNO : Hid (∀ j < n, goodN (l.getD j []) = false → G = false) := Lib.hid fun j hj h => by rw [← hG]; exact good_no (by rw [hn]; exact hj) h
  rw [hG]
  clear hn hG hv
  have HB := Lib.hid (Below.refl w.heap.size w)
  go_enter Tryd.func25, Tryd.ntmps25
  go_wp2_with fail
  go_loopw [7] (fun i wr => ∃ k : Nat, k ≤ n ∧ i = .int .i64 k ∧ (∀ j < k, goodN (l.getD j []) = true) ∧ Below w.heap.size w wr) (fun i _ => n - (intOf i).toNat)
  case atStart => exact ⟨0, by omega, rfl, fun j hj => by omega, HB.out⟩
  case round =>
    clear HB
    obtain ⟨k, hk, rfl, hok, hb⟩ := hrel
    have HB := Lib.hid hb
    have HOK := Lib.hid hok
    clear hok hb
    by_cases hlt : k < n
    · obtain ⟨q, hx⟩ : ∃ x, l[k]? = some x := ⟨_, List.getElem?_eq_getElem (by rw [HN.out]; exact hlt)⟩
      have HQD : Hid (l.getD k [] = q) := Lib.hid (by rw [List.getD_eq_getElem?_getD, hx]; rfl)
      have HQM : Hid (q.length ≤ maxLen) := Lib.hid (HM.out q (List.mem_of_getElem? hx))
      obtain ⟨b, o, rfl, hbw, hcell⟩ := strs_at (HV.out.below HB.out (Nat.le_refl _)) hx
      obtain ⟨m, hm⟩ : ∃ m, q.length = m := ⟨_, rfl⟩
      have hk0 : (0 : Int) ≤ (k : Int) := by omega
      have hk1 : (k : Int) < (n : Int) := by omega
      have hkd : decide ((k : Int) < (n : Int)) = true := decide_eq_true hk1
      have HQ4 : Hid (goodN q = (decide (1 ≤ m) && decide (m ≤ 4) && q.all letter)) := Lib.hid (by rw [← hm]; rfl)
      have C := Lib.hid (letters_any q wr HQM.out)
      clear hx hbw
      by_cases h1 : m < 1
      · have hd1 : decide ((m : Int) < 1) = true := decide_eq_true (by omega)
        have hG : G = false := HNO.out k hlt (by rw [HQD.out, HQ4.out, decide_eq_false (by omega)]; rfl)
        go_wp2_with fail
        go_ret
        first | exact ⟨rfl, HB.out⟩ | (rw [hG]; exact ⟨rfl, HB.out⟩)
      have hd1 : decide ((m : Int) < 1) = false := decide_eq_false (by omega)
      by_cases h4 : 4 < m
      · have hd2 : decide ((4 : Int) < (m : Int)) = true := decide_eq_true (by omega)
        have hG : G = false := HNO.out k hlt (by rw [HQD.out, HQ4.out, decide_eq_false (show ¬ m ≤ 4 by omega), Bool.and_false]; rfl)
        go_wp2_with fail
        go_ret
        first | exact ⟨rfl, HB.out⟩ | (rw [hG]; exact ⟨rfl, HB.out⟩)
      have hd2 : decide ((4 : Int) < (m : Int)) = false := decide_eq_false (by omega)
      have HQ5 : Hid (goodN q = q.all letter) := Lib.hid (by rw [HQ4.out, decide_eq_true (by omega), decide_eq_true (by omega)]; rfl)
      go_wp2_with fail
      refine C.out.mono ?_
      rintro e w1 ⟨rfl, hb1⟩
      have HB1 := Lib.hid (HB.out.trans (hb1.mono HB.out.size))
      clear hb1 HB
      cases hal : q.all letter with
      | false =>
        have hG : G = false := HNO.out k hlt (by rw [HQD.out, HQ5.out, hal])
        clear hal
        go_wp2_with fail
        go_ret
        first | exact ⟨rfl, HB1.out⟩ | (rw [hG]; exact ⟨rfl, HB1.out⟩)
      | true =>
        have HAL := Lib.hid hal
        clear hal
        have hw : IntKind.i64.wrap ((k : Int) + 1) = ((k + 1 : Nat) : Int) := by rw [i64_id _ (by omega) (by omega)]; omega
        go_wp2_with fail
        refine ⟨⟨k + 1, by omega, by go_num, fun j hj => ?_, HB1.out⟩, by simp [intOf]; omega⟩
        rcases Nat.lt_succ_iff_lt_or_eq.1 hj with h | h
        · exact HOK.out j h
        · subst h; rw [HQD.out, HQ5.out]; exact HAL.out
    · have hkd : decide ((k : Int) < (n : Int)) = false := decide_eq_false (by omega)
      have hG : G = true := HY.out fun j hj => HOK.out j (by omega)
      go_wp2_with fail
      go_ret
      first | exact ⟨rfl, HB.out⟩ | (rw [hG]; exact ⟨rfl, HB.out⟩)
theorem size_b4 : (Tryd.prog.info? 49).map (·.size) = some 4 := by kernel_rfl
theorem pad_spl (q : List (BitVec 8)) : (spl (bs (zer 4)).toList 0 (bytesV (q.take 4))).toArray = bs (padN q) := by
  rw [spl_bs]
  congr 1
  unfold spl padN
  rw [List.take_zero, List.nil_append, Nat.zero_add, List.take_append]
  unfold zer
  rw [List.drop_replicate, List.take_replicate, List.length_take]
  congr 2
  omega
set_option maxHeartbeats 800000 in
theorem pad_any (q : List (BitVec 8)) (w : World) :
    Calls Tryd.prog 16 #[.string (strB q)] w fun e w' => e = .returned (.agg (bs (padN q))) ∧ Below w.heap.size w w' := by
  have HPE := Lib.hid (pad_spl q)
  have HS := St.nil w noF
  go_enter Tryd.func16, Tryd.ntmps16
  go_upto_region 2 with (first | ((with_reducible refine wpList_plain ?_ ?_); exact rfl; intro KK hKK; refine wp_st_alloc HS 49 (bs (zer 4)) rfl (.agg (bs (zer 4))) (by kernel_rfl) (rfl) (fun g2 W1 HSx => hKK _ _ ?_); clear hKK KK HS; have HS : St w noF [⟨g2, 49, bs (zer 4)⟩] W1 := HSx; clear HSx) | ((with_reducible refine wpList_plain ?_ ?_); exact rfl; intro KK hKK; refine wp_st_alloc HS 49 (bs (zer 4)) rfl (.agg (bs (zer 4))) (by kernel_rfl) (rfl) (fun g3 W2 HSx => hKK _ _ ?_); clear hKK KK HS; have HS : St w noF [⟨g2, 49, bs (zer 4)⟩, ⟨g3, 49, bs (zer 4)⟩] W2 := HSx; clear HSx))
  go_wp2_with (first | ((with_reducible refine wpList_plain ?_ ?_); exact rfl; intro KK hKK; refine wp_copy_str (.tmp 4) (.tmp 5) 9 rfl g3 0 4 4 rfl q rfl 49 _ (HS.row 1 rfl) (by rw [size_bs, length_zer]; omega) (fun W3 hr hg => hKK _ _ ?_); clear hKK KK; have HSx : St w noF [⟨g2, 49, bs (zer 4)⟩, ⟨g3, 49, bs (padN q)⟩] W3 := HS.upd 1 rfl (HPE.out ▸ hr) hg; clear hr hg HS; have HS := HSx; clear HSx) | ((with_reducible refine wpList_plain ?_ ?_); exact rfl; intro KK hKK; refine wp_st_load HS 1 0 49 (.tmp 3) rfl rfl rfl (bs (padN q)) (slab_whole _) _ Tryd.underlying49 rfl (by rw [size_bs, length_padN]; exact size_b4) (hKK _ _ ?_); clear hKK KK) | ((with_reducible refine wpList_plain ?_ ?_); exact rfl; intro KK hKK; refine wp_st_store HS 0 0 49 (.tmp 2) (.tmp 7) rfl rfl rfl (.agg (bs (padN q))) rfl (by rw [show Value.cells (.agg (bs (padN q))) = bs (padN q) from rfl, size_bs, length_padN]; exact size_b4) (by rw [show Value.cells (.agg (bs (padN q))) = bs (padN q) from rfl, size_bs, length_padN, size_bs, length_zer]; decide) (by exact one_bs _) (bs (padN q)) (spl_agg _ _ _ rfl (by rw [size_bs, size_bs, length_padN, length_zer])) (fun W4 HSx => hKK _ _ ?_); clear hKK KK HS; have HS : St w noF [⟨g2, 49, bs (padN q)⟩, ⟨g3, 49, bs (padN q)⟩] W4 := HSx; clear HSx))
  exact bodyPost_ret (v := .agg (bs (padN q))) (results_cell_row Tryd.results16 _ _ g2 49 (bs (padN q)) (0, 0) _ rfl (HS.row 0 rfl) Tryd.underlying49 rfl (by rw [size_bs, length_padN]; exact size_b4)) rfl ⟨rfl, HS.below⟩
def strLen : Value → Nat | .string s => s.size | _ => 0
set_option maxHeartbeats 800000 in
theorem trimb_any (q : List (BitVec 8)) (w : World) (hm : q.length ≤ maxLen) :
    Calls Tryd.prog 30 #[.string (strB q), .int .u8 0] w fun e w' => e = .returned (.string (strB (trimN q))) ∧ w = w' := by
  have HM := Lib.hid hm
  clear hm
  obtain ⟨t, ht⟩ : ∃ t, trimN q = t := ⟨_, rfl⟩
  have HT := Lib.hid ht
  rw [ht]
  clear ht
  go_enter Tryd.func30, Tryd.ntmps30
  go_wp2_with fail
  go_loopw [0] (fun s wr => ∃ p : List (BitVec 8), s = .string (strB p) ∧ trimN p = t ∧ p.length ≤ maxLen ∧ wr = w) (fun s _ => strLen s)
  case atStart => exact ⟨q, rfl, HT.out, HM.out, rfl⟩
  case round =>
    clear HM HT
    obtain ⟨p, rfl, ht, hl, rfl⟩ := hrel
    have HT := Lib.hid ht
    have HL := Lib.hid hl
    clear ht hl
    rcases List.eq_nil_or_concat p with rfl | ⟨r, x, rfl⟩
    · have ht : t = [] := HT.out.symm.trans trim_nil
      subst ht
      clear HT
      have h0 : (strB []).size = 0 := by rw [strB_size]; rfl
      have hd0 : decide ((0 : Int) < 0) = false := rfl
      go_wp2_with fail
      go_ret
      exact ⟨rfl, rfl⟩
    · rw [List.concat_eq_append] at HT HL ⊢
      obtain ⟨p, hp⟩ : ∃ p, r ++ [x] = p := ⟨_, rfl⟩
      obtain ⟨m, hm⟩ : ∃ m, r.length = m := ⟨_, rfl⟩
      have hpl : p.length = m + 1 := by rw [← hp, ← hm, List.length_append]; rfl
      obtain ⟨N, hN⟩ : ∃ N, m + 1 = N := ⟨_, rfl⟩
      rw [hN] at hpl
      have hix : ∀ w, (Instr.index 9 (.string (strB p)) (.int .i64 (m : Int))).run Tryd.prog w = .ok (.int .u8 (bd x)) w := fun w => by
        have := run_ix w 9 p .i64 m Tryd.underlying9 (by omega)
        rw [this, ← hp, List.getD_eq_getElem?_getD, List.getElem?_append_right (by omega), hm, Nat.sub_self]; rfl
      have hex : (strB p).extract 0 m = strB r := by
        rw [str_extract, List.drop_zero, Nat.sub_zero, ← hp, ← hm, List.take_left]
      have HMX : Hid (N ≤ 9223372036854775807) := Lib.hid (by have := HL.out; rw [hp, hpl] at this; unfold maxLen at this; omega)
      have hw : IntKind.i64.wrap ((N : Int) - 1) = (m : Int) := by have := HMX.out; rw [i64_id _ (by omega) (by omega)]; omega
      have hd0 : decide ((0 : Int) < (N : Int)) = true := decide_eq_true (by omega)
      have hN0 : 0 < N := by omega
      have h0m : (0 : Int) ≤ (m : Int) := by omega
      have hmN : (m : Int) ≤ (N : Int) := by omega
      have HNM : Hid (m + 1 = N) := Lib.hid hN
      have HRL : Hid (r.length = m) := Lib.hid hm
      have HTX : Hid (trimN (r ++ [x]) = t) := HT
      have HLX : Hid (r.length ≤ maxLen) := Lib.hid (by have := HL.out; rw [List.length_append] at this; omega)
      rw [hp]
      have HP := Lib.hid hp
      clear hN hm hp HL HT
      by_cases hx : x = 0#8
      · have hb1 : (bd x == 0) = true := by rw [hx]; rfl
        have hb2 : decide (bd x = 0) = true := by rw [hx]; rfl
        have HTR : Hid (trimN r = t) := Lib.hid (by rw [← HTX.out, hx, trim_zero])
        clear hx
        go_wp2_with fail
        refine ⟨⟨r, by first | rfl | simp [hex], HTR.out, HLX.out, trivial⟩, ?_⟩
        simp [strLen, strB_size, HRL.out, hpl]; have := HNM.out; omega
      · have hb1 : (bd x == 0) = false := by
          refine beq_eq_false_iff_ne.2 fun e => hx (bd_inj (by rw [e]; rfl))
        have hb2 : decide (bd x = 0) = false := decide_eq_false fun e => hx (bd_inj (by rw [e]; rfl))
        have ht : t = p := by rw [← HTX.out, trim_more r x hx]; exact HP.out
        clear hx
        go_wp2_with fail
        go_ret
        first | exact ⟨rfl, rfl⟩ | (rw [ht]; exact ⟨rfl, rfl⟩)
theorem lit_beq : ((⟨#[0]⟩ : ByteArray).toList == (⟨#[]⟩ : ByteArray).toList) = false := by rw [ByteArray.toList_eq, ByteArray.toList_eq]; rfl
set_option maxHeartbeats 800000 in
theorem trim_any (q : List (BitVec 8)) (w : World) (hm : q.length ≤ maxLen) :
    Calls Tryd.prog 27 #[.string (strB q), .string ⟨#[0]⟩] w fun e w' => e = .returned (.string (strB (trimN q))) ∧ w = w' := by
  have C := Lib.hid (trimb_any q w hm)
  clear hm
  have h0 := str_emp q
  have hn0 := str_nil q
  have hl := lit_beq
  have hix : ∀ w, (Instr.index 9 (.string ⟨#[0]⟩) (.int .i64 0)).run Tryd.prog w = .ok (.int .u8 0) w := fun w => by
    rw [run_index_string w 9 ⟨#[0]⟩ .i64 0 Tryd.underlying9]; rfl
  have h128 : decide ((0 : Int) < 128) = true := rfl
  have h11 : ((1 : Int) == 1) = true := rfl
  have hs1 : (⟨#[0]⟩ : ByteArray).size = 1 := rfl
  by_cases hq : q = []
  · have hn1 : (strB q).toList = [] := hn0.2 hq
    rw [decide_eq_true hq] at h0
    have ht : trimN q = q := by rw [hq]; rfl
    rw [ht]
    clear C hn0 hq ht
    go_enter Tryd.func27, Tryd.ntmps27
    go_wp2_with fail
    go_ret
    exact ⟨rfl, rfl⟩
  · have hn1 : ¬ (strB q).toList = [] := fun h => hq (hn0.1 h)
    rw [decide_eq_false hq] at h0
    clear hq hn0
    go_enter Tryd.func27, Tryd.ntmps27
    go_wp2_with fail
    refine C.out.mono ?_
    rintro e w1 ⟨rfl, rfl⟩
    go_wp2_with fail
    go_ret
    exact ⟨rfl, rfl⟩
set_option maxHeartbeats 800000 in
theorem cut_any (b : List (BitVec 8)) (w : World) (hl : b.length = 4) :
    Calls Tryd.prog 21 #[.agg (bs b)] w fun e w' => e = .returned (.tuple #[.string (strB (cutN b).1), .bool (cutN b).2]) ∧ Below w.heap.size w w' := by
  have HL := Lib.hid hl
  have H4 : Hid ((bs b).size = 4) := Lib.hid (by rw [size_bs, hl])
  obtain ⟨t, ht⟩ : ∃ t, trimN b = t := ⟨_, rfl⟩
  have HC : Hid (cutN b = if (decide (t = []) || goodN t) then (t, true) else ([], false)) := Lib.hid (by unfold cutN okTrim; rw [ht])
  have HTM : Hid (t.length ≤ maxLen) := Lib.hid (by
    have h : t.length ≤ b.length := by rw [← ht]; unfold trimN; rw [List.length_reverse]; exact Nat.le_trans (List.dropWhile_sublist _).length_le (by rw [List.length_reverse]; exact Nat.le_refl _)
    unfold maxLen; omega)
  have HT := Lib.hid ht
  clear hl ht
  have HS := St.nil w noF
  go_enter Tryd.func21, Tryd.ntmps21
  go_upto_region 1 with (first | ((with_reducible refine wpList_plain ?_ ?_); exact rfl; intro KK hKK; refine wp_st_box HS 49 (.tmp 0) rfl _ rfl (bs b) (rfl) (fun g1 W1 HSx => hKK _ _ ?_); clear hKK KK HS; have HS : St w noF [⟨g1, 49, bs b⟩] W1 := HSx; clear HSx))
  have hsl : Slice W1 (.slice (some ⟨g1, 0, none⟩) 4 4) b := by have := row_slice (c := 4) (HS.row 0 rfl) (by rw [HL.out]; exact Nat.le_refl _); rwa [HL.out] at this
  have hcv := conv_bytes hsl 9 Tryd.underlying9
  have C := Lib.hid (trim_any b W1 (by rw [HL.out]; unfold maxLen; omega))
  clear hsl
  go_wp2_with fail
  refine C.out.mono ?_
  rintro e w1 ⟨rfl, rfl⟩
  rw [HT.out]
  clear hcv C HT
  have h0 := str_emp t
  have hn0 := str_nil t
  have HB := Lib.hid HS.below
  clear HS
  by_cases hq : t = []
  · have hn1 : (strB t).toList = [] := hn0.2 hq
    rw [decide_eq_true hq] at h0
    have HC1 : Hid (cutN b = (t, true)) := Lib.hid (by rw [HC.out, decide_eq_true hq]; rfl)
    clear hq hn0
    go_wp2_with fail
    go_ret2
    exact ⟨by rw [HC1.out] <;> rfl, HB.out⟩
  · have hn1 : ¬ (strB t).toList = [] := fun h => hq (hn0.1 h)
    rw [decide_eq_false hq] at h0
    clear hn0
    have HQ := Lib.hid (decide_eq_false hq)
    clear hq
    have C := Lib.hid (good_any [t] _ _ (strs1 W1 t HTM.out 9) (by unfold maxLen; simp))
    have HG1 : Hid (goodNs [t] = goodN t) := Lib.hid (by unfold goodNs; simp)
    rw [HG1.out] at C
    have HB1 := Lib.hid (HB.out.alloc HB.out.size (.cells #[.string (strB t)] 9))
    go_wp2_with fail
    refine C.out.mono ?_
    rintro e w1 ⟨rfl, hb1⟩
    have HB2 := Lib.hid (HB1.out.trans (hb1.mono HB1.out.size))
    clear hb1 C HG1
    cases hg : goodN t with
    | true =>
      have HC1 : Hid (cutN b = (t, true)) := Lib.hid (by rw [HC.out, HQ.out, hg]; rfl)
      clear hg
      go_wp2_with fail
      go_ret2
      exact ⟨by rw [HC1.out] <;> rfl, HB2.out⟩
    | false =>
      have HC1 : Hid (cutN b = ([], false)) := Lib.hid (by rw [HC.out, HQ.out, hg]; rfl)
      clear hg
      go_wp2_with fail
      go_ret2
      exact ⟨by rw [HC1.out, ← str_lit0] <;> rfl, HB2.out⟩
end Go.Proofs.YteidjbbhhfdcpaaDoor
