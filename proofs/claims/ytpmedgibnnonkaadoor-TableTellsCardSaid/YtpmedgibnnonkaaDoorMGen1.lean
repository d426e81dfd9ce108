/- Merged: NamesPrg2 TabBytes TabFrom TabGood TabEnc VolOwn Blk EqI BlkE TabDec. -/
import Derived.Deep.DeepAppendWide
import Derived.Test.YtpmedgibnnonkaaDoorProg
import Derived.Laws.StructEq
import Derived.Test.YtpmedgibnnonkaaDoorMGen0
/- The program's names: Good, Pad, Cut; strings.TrimRight of one sign. -/
set_option maxRecDepth 4000
namespace Go.Proofs.YtpmedgibnnonkaaDoor
open Go Go.RowKit
attribute [local go_sem] strB_size
theorem good_all {l : List (List (BitVec 8))} (h : ∀ j < l.length, goodN (l.getD j []) = true) : goodNs l = true := by
  unfold goodNs
  rw [List.all_eq_true]
  intro x hx
  obtain ⟨j, hj, rfl⟩ := List.getElem_of_mem hx
  have := h j hj
  rwa [List.getD_eq_getElem?_getD, List.getElem?_eq_getElem hj] at this
theorem good_no {l : List (List (BitVec 8))} {j : Nat} (hj : j < l.length) (h : goodN (l.getD j []) = false) : goodNs l = false := by
  unfold goodNs
  rw [List.all_eq_false]
  rw [List.getD_eq_getElem?_getD, List.getElem?_eq_getElem hj] at h
  exact ⟨l[j], List.getElem_mem hj, by rw [show goodN l[j] = false from h]; decide⟩
set_option maxHeartbeats 800000 in
theorem good_any (l : List (List (BitVec 8))) (v : Value) (w : World) (hv : Strs w v l) (hl : l.length ≤ maxLen) :
    Calls Tryd.prog 23 #[v] w fun e w' => e = .returned (.bool (goodNs l)) ∧ Below w.heap.size w w' := by
  obtain ⟨A, c, rfl⟩ : ∃ A c, v = .slice A l.length c := by obtain ⟨A, c, h, _⟩ := hv; exact ⟨A, c, h⟩
  obtain ⟨n, hn⟩ : ∃ n, l.length = n := ⟨_, rfl⟩
  have HN := Lib.hid hn
  have HM : Hid (∀ q ∈ l, q.length ≤ maxLen) := Lib.hid (by obtain ⟨_, _, _, _, _, hm, _⟩ := hv; exact hm)
  rw [hn] at hv hl ⊢
  have HV := Lib.hid hv
  unfold maxLen at hl
  obtain ⟨G, hG⟩ : ∃ G, goodNs l = G := ⟨_, rfl⟩
  have HY : Hid ((∀ j < n, goodN (l.getD j []) = true) → G = true) := Lib.hid fun h => by rw [← hG]; exact good_all (by rw [hn]; exact h)
  have HNO : Hid (∀ j < n, goodN (l.getD j []) = false → G = false) := Lib.hid fun j hj h => by rw [← hG]; exact good_no (by rw [hn]; exact hj) h
  rw [hG]
  clear hn hG hv
  have HB := Lib.hid (Below.refl w.heap.size w)
  go_enter Tryd.func23, Tryd.ntmps23
  go_wp2_with fail
  go_loopw [7] (fun i wr => ∃ k : Nat, k ≤ n ∧ i = .int .i64 k ∧ (∀ j < k, goodN (l.getD j []) = true) ∧ Below w.heap.size w wr) (fun i _ => n - (intOf i).toNat)
  case atStart => exact ⟨0, by omega, rfl, fun j hj => by omega, HB.out⟩
  case round =>
    clear HB
    obtain ⟨k, hk, rfl, hok, hb⟩ := hrel
    have HB := Lib.hid hb
    have HOK := Lib.hid hok
    clear hok hb
    by_cases hlt : k < n
    · obtain ⟨q, hx⟩ : ∃ x, l[k]? = some x := ⟨_, List.getElem?_eq_getElem (by rw [HN.out]; exact hlt)⟩
      have HQD : Hid (l.getD k [] = q) := Lib.hid (by rw [List.getD_eq_getElem?_getD, hx]; rfl)
      have HQM : Hid (q.length ≤ maxLen) := Lib.hid (HM.out q (List.mem_of_getElem? hx))
      obtain ⟨b, o, rfl, hbw, hcell⟩ := strs_at (HV.out.below HB.out (Nat.le_refl _)) hx
      obtain ⟨m, hm⟩ : ∃ m, q.length = m := ⟨_, rfl⟩
      have hk0 : (0 : Int) ≤ (k : Int) := by omega
      have hk1 : (k : Int) < (n : Int) := by omega
      have hkd : decide ((k : Int) < (n : Int)) = true := decide_eq_true hk1
      have HQ4 : Hid (goodN q = (decide (1 ≤ m) && decide (m ≤ 4) && q.all letter)) := Lib.hid (by rw [← hm]; rfl)
      have C := Lib.hid (letters_any q wr HQM.out)
      clear hx hbw
      by_cases h1 : m < 1
      · have hd1 : decide ((m : Int) < 1) = true := decide_eq_true (by omega)
        have hG : G = false := HNO.out k hlt (by rw [HQD.out, HQ4.out, decide_eq_false (by omega)]; rfl)
        go_wp2_with fail
        go_ret
        first | exact ⟨rfl, HB.out⟩ | (rw [hG]; exact ⟨rfl, HB.out⟩)
      have hd1 : decide ((m : Int) < 1) = false := decide_eq_false (by omega)
      by_cases h4 : 4 < m
      · have hd2 : decide ((4 : Int) < (m : Int)) = true := decide_eq_true (by omega)
        have hG : G = false := HNO.out k hlt (by rw [HQD.out, HQ4.out, decide_eq_false (show ¬ m ≤ 4 by omega), Bool.and_false]; rfl)
        go_wp2_with fail
        go_ret
        first | exact ⟨rfl, HB.out⟩ | (rw [hG]; exact ⟨rfl, HB.out⟩)
      have hd2 : decide ((4 : Int) < (m : Int)) = false := decide_eq_false (by omega)
      have HQ5 : Hid (goodN q = q.all letter) := Lib.hid (by rw [HQ4.out, decide_eq_true (by omega), decide_eq_true (by omega)]; rfl)
      go_wp2_with fail
      refine C.out.mono ?_
      rintro e w1 ⟨rfl, hb1⟩
      have HB1 := Lib.hid (HB.out.trans (hb1.mono HB.out.size))
      clear hb1 HB
      cases hal : q.all letter with
      | false =>
        have hG : G = false := HNO.out k hlt (by rw [HQD.out, HQ5.out, hal])
        clear hal
        go_wp2_with fail
        go_ret
        first | exact ⟨rfl, HB1.out⟩ | (rw [hG]; exact ⟨rfl, HB1.out⟩)
      | true =>
        have HAL := Lib.hid hal
        clear hal
        have hw : IntKind.i64.wrap ((k : Int) + 1) = ((k + 1 : Nat) : Int) := by rw [i64_id _ (by omega) (by omega)]; omega
        go_wp2_with fail
        refine ⟨⟨k + 1, by omega, by go_num, fun j hj => ?_, HB1.out⟩, by simp [intOf]; omega⟩
        rcases Nat.lt_succ_iff_lt_or_eq.1 hj with h | h
        · exact HOK.out j h
        · subst h; rw [HQD.out, HQ5.out]; exact HAL.out
    · have hkd : decide ((k : Int) < (n : Int)) = false := decide_eq_false (by omega)
      have hG : G = true := HY.out fun j hj => HOK.out j (by omega)
      go_wp2_with fail
      go_ret
      first | exact ⟨rfl, HB.out⟩ | (rw [hG]; exact ⟨rfl, HB.out⟩)
theorem size_b4 : (Tryd.prog.info? 50).map (·.size) = some 4 := by kernel_rfl
theorem pad_spl (q : List (BitVec 8)) : (spl (bs (zer 4)).toList 0 (bytesV (q.take 4))).toArray = bs (padN q) := by
  rw [spl_bs]
  congr 1
  unfold spl padN
  rw [List.take_zero, List.nil_append, Nat.zero_add, List.take_append]
  unfold zer
  rw [List.drop_replicate, List.take_replicate, List.length_take]
  congr 2
  omega
set_option maxHeartbeats 800000 in
theorem pad_any (q : List (BitVec 8)) (w : World) :
    Calls Tryd.prog 27 #[.string (strB q)] w fun e w' => e = .returned (.agg (bs (padN q))) ∧ Below w.heap.size w w' := by
  have HPE := Lib.hid (pad_spl q)
  have HS := St.nil w noF
  go_enter Tryd.func27, Tryd.ntmps27
  go_upto_region 2 with (first | ((with_reducible refine wpList_plain ?_ ?_); exact rfl; intro KK hKK; refine wp_st_alloc HS 50 (bs (zer 4)) rfl (.agg (bs (zer 4))) (by kernel_rfl) (rfl) (fun g2 W1 HSx => hKK _ _ ?_); clear hKK KK HS; have HS : St w noF [⟨g2, 50, bs (zer 4)⟩] W1 := HSx; clear HSx) | ((with_reducible refine wpList_plain ?_ ?_); exact rfl; intro KK hKK; refine wp_st_alloc HS 50 (bs (zer 4)) rfl (.agg (bs (zer 4))) (by kernel_rfl) (rfl) (fun g3 W2 HSx => hKK _ _ ?_); clear hKK KK HS; have HS : St w noF [⟨g2, 50, bs (zer 4)⟩, ⟨g3, 50, bs (zer 4)⟩] W2 := HSx; clear HSx))
  go_wp2_with (first | ((with_reducible refine wpList_plain ?_ ?_); exact rfl; intro KK hKK; refine wp_copy_str (.tmp 4) (.tmp 5) 9 rfl g3 0 4 4 rfl q rfl 50 _ (HS.row 1 rfl) (by rw [size_bs, length_zer]; omega) (fun W3 hr hg => hKK _ _ ?_); clear hKK KK; have HSx : St w noF [⟨g2, 50, bs (zer 4)⟩, ⟨g3, 50, bs (padN q)⟩] W3 := HS.upd 1 rfl (HPE.out ▸ hr) hg; clear hr hg HS; have HS := HSx; clear HSx) | ((with_reducible refine wpList_plain ?_ ?_); exact rfl; intro KK hKK; refine wp_st_load HS 1 0 50 (.tmp 3) rfl rfl rfl (bs (padN q)) (slab_whole _) _ Tryd.underlying50 rfl (by rw [size_bs, length_padN]; exact size_b4) (hKK _ _ ?_); clear hKK KK) | ((with_reducible refine wpList_plain ?_ ?_); exact rfl; intro KK hKK; refine wp_st_store HS 0 0 50 (.tmp 2) (.tmp 7) rfl rfl rfl (.agg (bs (padN q))) rfl (by rw [show Value.cells (.agg (bs (padN q))) = bs (padN q) from rfl, size_bs, length_padN]; exact size_b4) (by rw [show Value.cells (.agg (bs (padN q))) = bs (padN q) from rfl, size_bs, length_padN, size_bs, length_zer]; decide) (by exact one_bs _) (bs (padN q)) (spl_agg _ _ _ rfl (by rw [size_bs, size_bs, length_padN, length_zer])) (fun W4 HSx => hKK _ _ ?_); clear hKK KK HS; have HS : St w noF [⟨g2, 50, bs (padN q)⟩, ⟨g3, 50, bs (padN q)⟩] W4 := HSx; clear HSx))
  exact bodyPost_ret (v := .agg (bs (padN q))) (results_cell_row Tryd.results27 _ _ g2 50 (bs (padN q)) (0, 0) _ rfl (HS.row 0 rfl) Tryd.underlying50 rfl (by rw [size_bs, length_padN]; exact size_b4)) rfl ⟨rfl, HS.below⟩
def strLen : Value → Nat | .string s => s.size | _ => 0
set_option maxHeartbeats 800000 in
theorem trimb_any (q : List (BitVec 8)) (w : World) (hm : q.length ≤ maxLen) :
    Calls Tryd.prog 33 #[.string (strB q), .int .u8 0] w fun e w' => e = .returned (.string (strB (trimN q))) ∧ w = w' := by
  have HM := Lib.hid hm
  clear hm
  obtain ⟨t, ht⟩ : ∃ t, trimN q = t := ⟨_, rfl⟩
  have HT := Lib.hid ht
  rw [ht]
  clear ht
  go_enter Tryd.func33, Tryd.ntmps33
  go_wp2_with fail
  go_loopw [0] (fun s wr => ∃ p : List (BitVec 8), s = .string (strB p) ∧ trimN p = t ∧ p.length ≤ maxLen ∧ wr = w) (fun s _ => strLen s)
  case atStart => exact ⟨q, rfl, HT.out, HM.out, rfl⟩
  case round =>
    clear HM HT
    obtain ⟨p, rfl, ht, hl, rfl⟩ := hrel
    have HT := Lib.hid ht
    have HL := Lib.hid hl
    clear ht hl
    rcases List.eq_nil_or_concat p with rfl | ⟨r, x, rfl⟩
    · have ht : t = [] := HT.out.symm.trans trim_nil
      subst ht
      clear HT
      have h0 : (strB []).size = 0 := by rw [strB_size]; rfl
      have hd0 : decide ((0 : Int) < 0) = false := rfl
      go_wp2_with fail
      go_ret
      exact ⟨rfl, rfl⟩
    · rw [List.concat_eq_append] at HT HL ⊢
      obtain ⟨p, hp⟩ : ∃ p, r ++ [x] = p := ⟨_, rfl⟩
      obtain ⟨m, hm⟩ : ∃ m, r.length = m := ⟨_, rfl⟩
      have hpl : p.length = m + 1 := by rw [← hp, ← hm, List.length_append]; rfl
      obtain ⟨N, hN⟩ : ∃ N, m + 1 = N := ⟨_, rfl⟩
      rw [hN] at hpl
      have hix : ∀ w, (Instr.index 9 (.string (strB p)) (.int .i64 (m : Int))).run Tryd.prog w = .ok (.int .u8 (bd x)) w := fun w => by
        have := run_ix w 9 p .i64 m Tryd.underlying9 (by omega)
        rw [this, ← hp, List.getD_eq_getElem?_getD, List.getElem?_append_right (by omega), hm, Nat.sub_self]; rfl
      have hex : (strB p).extract 0 m = strB r := by
        rw [str_extract, List.drop_zero, Nat.sub_zero, ← hp, ← hm, List.take_left]
      have HMX : Hid (N ≤ 9223372036854775807) := Lib.hid (by have := HL.out; rw [hp, hpl] at this; unfold maxLen at this; omega)
      have hw : IntKind.i64.wrap ((N : Int) - 1) = (m : Int) := by have := HMX.out; rw [i64_id _ (by omega) (by omega)]; omega
      have hd0 : decide ((0 : Int) < (N : Int)) = true := decide_eq_true (by omega)
      have hN0 : 0 < N := by omega
      have h0m : (0 : Int) ≤ (m : Int) := by omega
      have hmN : (m : Int) ≤ (N : Int) := by omega
      have HNM : Hid (m + 1 = N) := Lib.hid hN
      have HRL : Hid (r.length = m) := Lib.hid hm
      have HTX : Hid (trimN (r ++ [x]) = t) := HT
      have HLX : Hid (r.length ≤ maxLen) := Lib.hid (by have := HL.out; rw [List.length_append] at this; omega)
      rw [hp]
      have HP := Lib.hid hp
      clear hN hm hp HL HT
      by_cases hx : x = 0#8
      · have hb1 : (bd x == 0) = true := by rw [hx]; rfl
        have hb2 : decide (bd x = 0) = true := by rw [hx]; rfl
        have HTR : Hid (trimN r = t) := Lib.hid (by rw [← HTX.out, hx, trim_zero])
        clear hx
        go_wp2_with fail
        refine ⟨⟨r, by first | rfl | simp [hex], HTR.out, HLX.out, trivial⟩, ?_⟩
        simp [strLen, strB_size, HRL.out, hpl]; have := HNM.out; omega
      · have hb1 : (bd x == 0) = false := by
          refine beq_eq_false_iff_ne.2 fun e => hx (bd_inj (by rw [e]; rfl))
        have hb2 : decide (bd x = 0) = false := decide_eq_false fun e => hx (bd_inj (by rw [e]; rfl))
        have ht : t = p := by rw [← HTX.out, trim_more r x hx]; exact HP.out
        clear hx
        go_wp2_with fail
        go_ret
        first | exact ⟨rfl, rfl⟩ | (rw [ht]; exact ⟨rfl, rfl⟩)
theorem lit_beq : ((⟨#[0]⟩ : ByteArray).toList == (⟨#[]⟩ : ByteArray).toList) = false := by rw [ByteArray.toList_eq, ByteArray.toList_eq]; rfl
set_option maxHeartbeats 800000 in
theorem trim_any (q : List (BitVec 8)) (w : World) (hm : q.length ≤ maxLen) :
    Calls Tryd.prog 32 #[.string (strB q), .string ⟨#[0]⟩] w fun e w' => e = .returned (.string (strB (trimN q))) ∧ w = w' := by
  have C := Lib.hid (trimb_any q w hm)
  clear hm
  have h0 := str_emp q
  have hn0 := str_nil q
  have hl := lit_beq
  have hix : ∀ w, (Instr.index 9 (.string ⟨#[0]⟩) (.int .i64 0)).run Tryd.prog w = .ok (.int .u8 0) w := fun w => by
    rw [run_index_string w 9 ⟨#[0]⟩ .i64 0 Tryd.underlying9]; rfl
  have h128 : decide ((0 : Int) < 128) = true := rfl
  have h11 : ((1 : Int) == 1) = true := rfl
  have hs1 : (⟨#[0]⟩ : ByteArray).size = 1 := rfl
  by_cases hq : q = []
  · have hn1 : (strB q).toList = [] := hn0.2 hq
    rw [decide_eq_true hq] at h0
    have ht : trimN q = q := by rw [hq]; rfl
    rw [ht]
    clear C hn0 hq ht
    go_enter Tryd.func32, Tryd.ntmps32
    go_wp2_with fail
    go_ret
    exact ⟨rfl, rfl⟩
  · have hn1 : ¬ (strB q).toList = [] := fun h => hq (hn0.1 h)
    rw [decide_eq_false hq] at h0
    clear hq hn0
    go_enter Tryd.func32, Tryd.ntmps32
    go_wp2_with fail
    refine C.out.mono ?_
    rintro e w1 ⟨rfl, rfl⟩
    go_wp2_with fail
    go_ret
    exact ⟨rfl, rfl⟩
set_option maxHeartbeats 800000 in
theorem cut_any (b : List (BitVec 8)) (w : World) (hl : b.length = 4) :
    Calls Tryd.prog 28 #[.agg (bs b)] w fun e w' => e = .returned (.tuple #[.string (strB (cutN b).1), .bool (cutN b).2]) ∧ Below w.heap.size w w' := by
  have HL := Lib.hid hl
  have H4 : Hid ((bs b).size = 4) := Lib.hid (by rw [size_bs, hl])
  obtain ⟨t, ht⟩ : ∃ t, trimN b = t := ⟨_, rfl⟩
  have HC : Hid (cutN b = if (decide (t = []) || goodN t) then (t, true) else ([], false)) := Lib.hid (by unfold cutN okTrim; rw [ht])
  have HTM : Hid (t.length ≤ maxLen) := Lib.hid (by
    have h : t.length ≤ b.length := by rw [← ht]; unfold trimN; rw [List.length_reverse]; exact Nat.le_trans (List.dropWhile_sublist _).length_le (by rw [List.length_reverse]; exact Nat.le_refl _)
    unfold maxLen; omega)
  have HT := Lib.hid ht
  clear hl ht
  have HS := St.nil w noF
  go_enter Tryd.func28, Tryd.ntmps28
  go_upto_region 1 with (first | ((with_reducible refine wpList_plain ?_ ?_); exact rfl; intro KK hKK; refine wp_st_box HS 50 (.tmp 0) rfl _ rfl (bs b) (rfl) (fun g1 W1 HSx => hKK _ _ ?_); clear hKK KK HS; have HS : St w noF [⟨g1, 50, bs b⟩] W1 := HSx; clear HSx))
  have hsl : Slice W1 (.slice (some ⟨g1, 0, none⟩) 4 4) b := by have := row_slice (c := 4) (HS.row 0 rfl) (by rw [HL.out]; exact Nat.le_refl _); rwa [HL.out] at this
  have hcv := conv_bytes hsl 9 Tryd.underlying9
  have C := Lib.hid (trim_any b W1 (by rw [HL.out]; unfold maxLen; omega))
  clear hsl
  go_wp2_with fail
  refine C.out.mono ?_
  rintro e w1 ⟨rfl, rfl⟩
  rw [HT.out]
  clear hcv C HT
  have h0 := str_emp t
  have hn0 := str_nil t
  have HB := Lib.hid HS.below
  clear HS
  by_cases hq : t = []
  · have hn1 : (strB t).toList = [] := hn0.2 hq
    rw [decide_eq_true hq] at h0
    have HC1 : Hid (cutN b = (t, true)) := Lib.hid (by rw [HC.out, decide_eq_true hq]; rfl)
    clear hq hn0
    go_wp2_with fail
    go_ret2
    exact ⟨by rw [HC1.out] <;> rfl, HB.out⟩
  · have hn1 : ¬ (strB t).toList = [] := fun h => hq (hn0.1 h)
    rw [decide_eq_false hq] at h0
    clear hn0
    have HQ := Lib.hid (decide_eq_false hq)
    clear hq
    have C := Lib.hid (good_any [t] _ _ (strs1 W1 t HTM.out 9) (by unfold maxLen; simp))
    have HG1 : Hid (goodNs [t] = goodN t) := Lib.hid (by unfold goodNs; simp)
    rw [HG1.out] at C
    have HB1 := Lib.hid (HB.out.alloc HB.out.size (.cells #[.string (strB t)] 9))
    go_wp2_with fail
    refine C.out.mono ?_
    rintro e w1 ⟨rfl, hb1⟩
    have HB2 := Lib.hid (HB1.out.trans (hb1.mono HB1.out.size))
    clear hb1 C HG1
    cases hg : goodN t with
    | true =>
      have HC1 : Hid (cutN b = (t, true)) := Lib.hid (by rw [HC.out, HQ.out, hg]; rfl)
      clear hg
      go_wp2_with fail
      go_ret2
      exact ⟨by rw [HC1.out] <;> rfl, HB2.out⟩
    | false =>
      have HC1 : Hid (cutN b = ([], false)) := Lib.hid (by rw [HC.out, HQ.out, hg]; rfl)
      clear hg
      go_wp2_with fail
      go_ret2
      exact ⟨by rw [HC1.out, ← str_lit0] <;> rfl, HB2.out⟩
end Go.Proofs.YtpmedgibnnonkaaDoor

/- A volume's bytes, and the volume of bytes: the program's. -/
set_option maxRecDepth 4000
namespace Go.Proofs.YtpmedgibnnonkaaDoor
open Go Go.RowKit
/- a volume's bytes -/
def blk4 (L : List Int) : List (BitVec 8) := [byteI (L.getD 0 0), byteI (L.getD 1 0), byteI (L.getD 2 0), byteI (L.getD 3 0)]
def volE (x : Tv) : List (BitVec 8) := padN x.1 ++ (byteI x.2.length :: blk4 x.2)
theorem length_volE (x : Tv) : (volE x).length = 9 := by unfold volE blk4; simp [length_padN]
theorem ints_at {w : World} {b o n c : Nat} {L : List Int} (h : IntsAt w (.slice (some ⟨b, o, none⟩) n c) L) (k : Nat) (hk : k < n) : w.cell? ⟨b, o + k, none⟩ = some (.int .i64 (L.getD k 0)) := by
  obtain ⟨b', o', x, h1, h2, _, h3, _⟩ := ints_get h (k := k) (by rw [ints_len h]; exact hk)
  injection h2 with h2
  injection h2 with h2 h4
  subst h2 h4
  rw [h3, List.getD_eq_getElem?_getD, h1]; rfl
theorem ints_addr {w : World} {A : Option Addr} {n c : Nat} {L : List Int} (h : IntsAt w (.slice A n c) L) (hn : 0 < n) : ∃ b o, A = some ⟨b, o, none⟩ := by
  obtain ⟨b, o, _, _, h2, _⟩ := ints_get h (k := 0) (by rw [ints_len h]; exact hn)
  exact ⟨b, o, h2⟩
theorem list_4 {α : Type} {l : List α} (h : l.length = 4) : ∃ a b c d, l = [a, b, c, d] := by
  match l, h with
  | [a, b, c, d], _ => exact ⟨a, b, c, d, rfl⟩
theorem list_3 {α : Type} {l : List α} (h : l.length = 3) : ∃ a b c, l = [a, b, c] := by
  match l, h with
  | [a, b, c], _ => exact ⟨a, b, c, rfl⟩
theorem list_2 {α : Type} {l : List α} (h : l.length = 2) : ∃ a b, l = [a, b] := by
  match l, h with
  | [a, b], _ => exact ⟨a, b, rfl⟩
theorem list_1 {α : Type} {l : List α} (h : l.length = 1) : ∃ a, l = [a] := by
  match l, h with
  | [a], _ => exact ⟨a, rfl⟩
theorem list_0 {α : Type} {l : List α} (h : l.length = 0) : l = [] := List.length_eq_zero_iff.1 h
theorem tb_eq0 (p : List (BitVec 8)) (L : List Int) (hL : L.length = 0) : (spl (zer 9) 0 (padN p)).set 4 (0#8) = volE (p, L) := by
  have hP := length_padN p
  unfold volE
  simp only
  generalize padN p = P at *
  obtain ⟨a, b, c, d, rfl⟩ := list_4 hP
  obtain rfl := list_0 hL
  rfl
set_option maxHeartbeats 800000 in
theorem tobytes0 (ci : Nat) (B : Option Addr) (p : List (BitVec 8)) (L : List Int) (w : World) (hi : IntsAt w (.slice B 0 ci) L) :
    Calls Tryd.prog 19 #[.agg #[.string (strB p), .slice B 0 ci]] w fun e w' => e = .returned (.agg (bs (volE (p, L)))) ∧ Below w.heap.size w w' := by
  have HS := St.nil w noF
  have HI : ∀ W, Below w.heap.size w W → IntsAt W (.slice B 0 ci) L := fun W hb => hi.below hb (Nat.le_refl _)
  have hL : L.length = 0 := ints_len hi
  refine enter_en Tryd.func19 rfl Tryd.ntmps19 (Nat.le_of_ble_eq_true rfl) fun a0 (HA0 : En 33 [(0, .agg #[.string (strB p), .slice B 0 ci])] a0) => ?_
  refine sq_ <| rl_ <| wl_ <| n_ HA0 rfl (fun _ h => dd_box HS rfl (HA0.ev 0 rfl) (cs := #[.string (strB p), .slice B 0 ci]) rfl h) fun g1 W1 HS1 a1 H1 => wl_ <| n_ H1 rfl (fun _ h => dd_new HS1 (bs (zer 9)) rfl (z := .agg (bs (zer 9))) (by kernel_rfl) rfl h) fun g2 W2 HS2 a2 H2 => ln_ <| nx <| sq_ <| rl_ <| wl_ <| n_ H2 rfl (fun _ h => dd_new HS2 (bs (zer 9)) rfl (z := .agg (bs (zer 9))) (by kernel_rfl) rfl h) fun g3 W3 HS3 a3 H3 => ln_ <| nx <| sq_ <| rl_ <| wl_ <| i_ H3 rfl (xf 0 0 rfl (H3.ev 1 rfl)) fun a4 H4 => wl_ <| i_ H4 rfl (dd_get HS3 0 0 rfl rfl (H4.ev 7 rfl) rfl Tryd.underlying9 rfl) fun a5 H5 => wl_ <| c_ H5 rfl HS3 (dcs Tryd.func27 rfl (args1 (H5.ev 8 rfl)) (pad_any p W3) (.agg (bs (padN p)))) fun W6 HS6 a6 H6 => wl_ <| n_ H6 rfl (fun _ h => dd_new HS6 (bs (zer 4)) rfl (z := .agg (bs (zer 4))) (by kernel_rfl) rfl h) fun g4 W7 HS7 a7 H7 => wl_ <| t_ rfl (fun _ h => dd_setrow HS7 3 rfl rfl (H7.ev 4 rfl) (H7.ev 9 rfl) (by kernel_rfl) (((size_bs _).trans (length_padN _)) : (bs (padN p)).size = 4) (((size_bs _).trans (length_zer 4)) : (bs (zer 4)).size = 4) (one_bs _) h) fun W8 HS8 => ?_
  clear HS HA0 a0 HS1 H1 a1 HS2 H2 a2 H3 a3 H4 a4 H5 a5 HS3 HS6 H6 a6
  refine ln_ <| nx <| sq_ <| ?_
  clear HS7
  refine wi_ HS8 [0, 1, 3] rfl [0, 1, 3, 2] rfl fun HSh9 hx9 => ht_ H7 0 hx9 rfl rfl (v := .slice (some ⟨g3, 0, none⟩) 9 9) (fun _ _ _ => dd_slAl (l := 0) (n := 9) (sz := 1) (j := 0) rfl (H7.ev 3 rfl) rfl (by kernel_rfl) (by decide) (by rfl) rfl) fun a10 H10 => ht_ H10 1 hx9 rfl rfl (v := .slice (some ⟨g4, 0, none⟩) 4 4) (fun _ _ _ => dd_slA (n := 4) (sz := 1) rfl (H10.ev 4 rfl) (by kernel_rfl)) fun a11 H11 => h1_ 2 rfl <| tv H11 rfl (S := [⟨g1, 45, #[.string (strB p), .slice B 0 ci]⟩, ⟨g2, 47, bs (zer 9)⟩, ⟨g3, 47, bs (spl (zer 9) 0 (padN p))⟩, ⟨g4, 50, bs (padN p)⟩]) (v := .int .i64 4) (fun _ h => dd_copyR HSh9 2 rfl (length_zer 9) rfl (H11.ev 10 rfl) (H11.ev 11 rfl) (slice_part (HSh9.row 3 rfl) 0 (bytes_slab (slab_whole _)) (length_padN _) (by decide)) (length_padN _) (by decide) (by decide) h) fun W12 HS12 a12 H12 => sx_ (sxi HS12 [0, 1, 3, 2] rfl) fun hx13 => ?_
  clear HS8 H7 a7 H10 a10 HSh9 H11 a11 hx9
  refine wpAnyH_done (by kernel_rfl) ?_ _
  clear hx13
  refine nx <| sq_ <| rl_ <| wl_ <| i_ H12 rfl (xf 1 1 rfl (H12.ev 1 rfl)) fun a14 H14 => wl_ <| i_ H14 rfl (dd_get HS12 0 1 rfl rfl (H14.ev 13 rfl) rfl Tryd.underlying43 rfl) fun a15 H15 => wl_ <| i_ H15 rfl (v := .int .i64 0) (dd_len rfl (H15.ev 14 rfl) Tryd.underlying43) fun a16 H16 => wl_ <| i_ H16 rfl (v := .int .u8 0) (dd_conv (k := .u8) rfl (H16.ev 15 rfl) Tryd.underlying3 (by kernel_rfl) (by decide)) fun a17 H17 => wl_ <| i_ H17 rfl (xA 9 1 4 rfl (H17.ev 3 rfl) rfl) fun a18 H18 => wl_ <| t_ rfl (S := [⟨g1, 45, #[.string (strB p), .slice B 0 ci]⟩, ⟨g2, 47, bs (zer 9)⟩, ⟨g3, 47, bs ((spl (zer 9) 0 (padN p)).set 4 (0#8))⟩, ⟨g4, 50, bs (padN p)⟩]) (fun _ h => dd_put HS12 2 4 rfl rfl (H18.ev 17 rfl) (H18.ev 16 rfl) (by kernel_rfl) rfl rfl (by rw [((size_bs _).trans (len_spl (length_zer 9) (length_padN _) (by decide)))]; rfl) (set_bs _ _ (0#8)) h) fun W19 HS19 => ln_ <| nx <| sq_ <| sq_ <| rl_ <| wl_ <| i_ H18 rfl (xf 1 1 rfl (H18.ev 1 rfl)) fun a20 H20 => wl_ <| i_ H20 rfl (dd_get HS19 0 1 rfl rfl (H20.ev 18 rfl) rfl Tryd.underlying43 rfl) fun a21 H21 => ?_
  clear H12 a12 H14 a14 H15 a15 H16 a16 H17 a17 HS12 H18 a18
  refine wl_ <| i_ H21 rfl (v := .int .i64 0) (dd_len rfl (H21.ev 19 rfl) Tryd.underlying43) fun a22 H22 => wl_ <| p_ H22 rfl rfl fun a23 H23 => ln_ <| nx <| wp_block <| wp_unr 1 <| unr_go <| sq_ <| rl_ <| wl_ <| i_ H23 rfl (dd_cmp rfl (H23.ev 21 rfl) (H23.ev 20 rfl) (lt_f (by decide))) fun a24 H24 => ln_ <| nx <| sq_ <| cf_ H24 rfl <| wp_exit <| tx <| tx <| bx <| nx <| sq_ <| rl_ <| wl_ <| i_ H24 rfl (v := .agg (bs ((spl (zer 9) 0 (padN p)).set 4 (0#8)))) (dd_load HS19 2 0 rfl rfl (H24.ev 3 rfl) (slab_whole _) Tryd.underlying47 rfl (by rw [show (bs ((spl (zer 9) 0 (padN p)).set 4 (0#8))).size = 9 from ((size_bs _).trans (len_set (len_spl (length_zer 9) (length_padN _) (by decide))))]; kernel_rfl)) fun a25 H25 => wl_ <| t_ rfl (fun _ h => dd_setrow HS19 1 rfl rfl (H25.ev 2 rfl) (H25.ev 32 rfl) (by kernel_rfl) (((size_bs _).trans (len_set (len_spl (length_zer 9) (length_padN _) (by decide)))) : (bs ((spl (zer 9) 0 (padN p)).set 4 (0#8))).size = 9) (((size_bs _).trans (length_zer 9)) : (bs (zer 9)).size = 9) (one_bs _) h) fun W26 HS26 => ln_ <| ?_
  clear H20 a20 H21 a21 H22 a22 H23 a23 H24 a24 HS19
  have H27 := H25.sel [2] rfl
  refine nx <| wp_ret <| ret_run H27.env0 (res_c Tryd.results19 (H27.get 2 rfl) (HS26.row 1 rfl) Tryd.underlying47 rfl (by rw [show (bs ((spl (zer 9) 0 (padN p)).set 4 (0#8))).size = 9 from ((size_bs _).trans (len_set (len_spl (length_zer 9) (length_padN _) (by decide))))]; kernel_rfl)) <| ?_
  clear H25
  exact ⟨by rw [tb_eq0 p L hL], HS26.below⟩
theorem tb_eq1 (p : List (BitVec 8)) (L : List Int) (hL : L.length = 1) : ((spl (zer 9) 0 (padN p)).set 4 (1#8)).set 5 (byteI (L.getD 0 0)) = volE (p, L) := by
  have hP := length_padN p
  unfold volE
  simp only
  generalize padN p = P at *
  obtain ⟨a, b, c, d, rfl⟩ := list_4 hP
  obtain ⟨x0, rfl⟩ := list_1 hL
  rfl
set_option maxHeartbeats 800000 in
theorem tobytes1 (bi oi ci : Nat) (p : List (BitVec 8)) (L : List Int) (w : World) (hi : IntsAt w (.slice (some ⟨bi, oi, none⟩) 1 ci) L) :
    Calls Tryd.prog 19 #[.agg #[.string (strB p), .slice (some ⟨bi, oi, none⟩) 1 ci]] w fun e w' => e = .returned (.agg (bs (volE (p, L)))) ∧ Below w.heap.size w w' := by
  have HS := St.nil w noF
  have HI : ∀ W, Below w.heap.size w W → IntsAt W (.slice (some ⟨bi, oi, none⟩) 1 ci) L := fun W hb => hi.below hb (Nat.le_refl _)
  have hL : L.length = 1 := ints_len hi
  refine enter_en Tryd.func19 rfl Tryd.ntmps19 (Nat.le_of_ble_eq_true rfl) fun a0 (HA0 : En 33 [(0, .agg #[.string (strB p), .slice (some ⟨bi, oi, none⟩) 1 ci])] a0) => ?_
  refine sq_ <| rl_ <| wl_ <| n_ HA0 rfl (fun _ h => dd_box HS rfl (HA0.ev 0 rfl) (cs := #[.string (strB p), .slice (some ⟨bi, oi, none⟩) 1 ci]) rfl h) fun g1 W1 HS1 a1 H1 => wl_ <| n_ H1 rfl (fun _ h => dd_new HS1 (bs (zer 9)) rfl (z := .agg (bs (zer 9))) (by kernel_rfl) rfl h) fun g2 W2 HS2 a2 H2 => ln_ <| nx <| sq_ <| rl_ <| wl_ <| n_ H2 rfl (fun _ h => dd_new HS2 (bs (zer 9)) rfl (z := .agg (bs (zer 9))) (by kernel_rfl) rfl h) fun g3 W3 HS3 a3 H3 => ln_ <| nx <| sq_ <| rl_ <| wl_ <| i_ H3 rfl (xf 0 0 rfl (H3.ev 1 rfl)) fun a4 H4 => wl_ <| i_ H4 rfl (dd_get HS3 0 0 rfl rfl (H4.ev 7 rfl) rfl Tryd.underlying9 rfl) fun a5 H5 => wl_ <| c_ H5 rfl HS3 (dcs Tryd.func27 rfl (args1 (H5.ev 8 rfl)) (pad_any p W3) (.agg (bs (padN p)))) fun W6 HS6 a6 H6 => wl_ <| n_ H6 rfl (fun _ h => dd_new HS6 (bs (zer 4)) rfl (z := .agg (bs (zer 4))) (by kernel_rfl) rfl h) fun g4 W7 HS7 a7 H7 => wl_ <| t_ rfl (fun _ h => dd_setrow HS7 3 rfl rfl (H7.ev 4 rfl) (H7.ev 9 rfl) (by kernel_rfl) (((size_bs _).trans (length_padN _)) : (bs (padN p)).size = 4) (((size_bs _).trans (length_zer 4)) : (bs (zer 4)).size = 4) (one_bs _) h) fun W8 HS8 => ?_
  clear HS HA0 a0 HS1 H1 a1 HS2 H2 a2 H3 a3 H4 a4 H5 a5 HS3 HS6 H6 a6
  refine ln_ <| nx <| sq_ <| ?_
  clear HS7
  refine wi_ HS8 [0, 1, 3] rfl [0, 1, 3, 2] rfl fun HSh9 hx9 => ht_ H7 0 hx9 rfl rfl (v := .slice (some ⟨g3, 0, none⟩) 9 9) (fun _ _ _ => dd_slAl (l := 0) (n := 9) (sz := 1) (j := 0) rfl (H7.ev 3 rfl) rfl (by kernel_rfl) (by decide) (by rfl) rfl) fun a10 H10 => ht_ H10 1 hx9 rfl rfl (v := .slice (some ⟨g4, 0, none⟩) 4 4) (fun _ _ _ => dd_slA (n := 4) (sz := 1) rfl (H10.ev 4 rfl) (by kernel_rfl)) fun a11 H11 => h1_ 2 rfl <| tv H11 rfl (S := [⟨g1, 45, #[.string (strB p), .slice (some ⟨bi, oi, none⟩) 1 ci]⟩, ⟨g2, 47, bs (zer 9)⟩, ⟨g3, 47, bs (spl (zer 9) 0 (padN p))⟩, ⟨g4, 50, bs (padN p)⟩]) (v := .int .i64 4) (fun _ h => dd_copyR HSh9 2 rfl (length_zer 9) rfl (H11.ev 10 rfl) (H11.ev 11 rfl) (slice_part (HSh9.row 3 rfl) 0 (bytes_slab (slab_whole _)) (length_padN _) (by decide)) (length_padN _) (by decide) (by decide) h) fun W12 HS12 a12 H12 => sx_ (sxi HS12 [0, 1, 3, 2] rfl) fun hx13 => ?_
  clear HS8 H7 a7 H10 a10 HSh9 H11 a11 hx9
  refine wpAnyH_done (by kernel_rfl) ?_ _
  clear hx13
  refine nx <| sq_ <| rl_ <| wl_ <| i_ H12 rfl (xf 1 1 rfl (H12.ev 1 rfl)) fun a14 H14 => wl_ <| i_ H14 rfl (dd_get HS12 0 1 rfl rfl (H14.ev 13 rfl) rfl Tryd.underlying43 rfl) fun a15 H15 => wl_ <| i_ H15 rfl (v := .int .i64 1) (dd_len rfl (H15.ev 14 rfl) Tryd.underlying43) fun a16 H16 => wl_ <| i_ H16 rfl (v := .int .u8 1) (dd_conv (k := .u8) rfl (H16.ev 15 rfl) Tryd.underlying3 (by kernel_rfl) (by decide)) fun a17 H17 => wl_ <| i_ H17 rfl (xA 9 1 4 rfl (H17.ev 3 rfl) rfl) fun a18 H18 => wl_ <| t_ rfl (S := [⟨g1, 45, #[.string (strB p), .slice (some ⟨bi, oi, none⟩) 1 ci]⟩, ⟨g2, 47, bs (zer 9)⟩, ⟨g3, 47, bs ((spl (zer 9) 0 (padN p)).set 4 (1#8))⟩, ⟨g4, 50, bs (padN p)⟩]) (fun _ h => dd_put HS12 2 4 rfl rfl (H18.ev 17 rfl) (H18.ev 16 rfl) (by kernel_rfl) rfl rfl (by rw [((size_bs _).trans (len_spl (length_zer 9) (length_padN _) (by decide)))]; rfl) (set_bs _ _ (1#8)) h) fun W19 HS19 => ln_ <| nx <| sq_ <| sq_ <| rl_ <| wl_ <| i_ H18 rfl (xf 1 1 rfl (H18.ev 1 rfl)) fun a20 H20 => wl_ <| i_ H20 rfl (dd_get HS19 0 1 rfl rfl (H20.ev 18 rfl) rfl Tryd.underlying43 rfl) fun a21 H21 => ?_
  clear H12 a12 H14 a14 H15 a15 H16 a16 H17 a17 HS12 H18 a18
  refine wl_ <| i_ H21 rfl (v := .int .i64 1) (dd_len rfl (H21.ev 19 rfl) Tryd.underlying43) fun a22 H22 => wl_ <| p_ H22 rfl rfl fun a23 H23 => ln_ <| nx <| wp_block <| wp_unr 2 <| unr_go <| sq_ <| rl_ <| wl_ <| i_ H23 rfl (dd_cmp rfl (H23.ev 21 rfl) (H23.ev 20 rfl) (lt_t (by decide))) fun a24 H24 => ln_ <| nx <| sq_ <| ct_ H24 rfl <| wp_skip <| nx <| sq_ <| wp_block <| sq_ <| rl_ <| wl_ <| p_ H24 rfl rfl fun a25 H25 => wl_ <| i_ H25 rfl (xS 1 (oi + 0) rfl (H25.ev 19 rfl) (H25.ev 21 rfl)) fun a26 H26 => wl_ <| i_ H26 rfl (dd_at rfl (H26.ev 24 rfl) (ints_at (HI _ HS19.below) 0 (by decide)) Tryd.underlying3 rfl) fun a27 H27 => q_ H27 2 rfl fun a28 H28 => ln_ <| ?_
  clear H20 a20 H21 a21 H22 a22 H23 a23 H24 a24 H25 a25 H26 a26 H27 a27
  have H29 := H28.sel [2, 3, 19, 20, 21, 5, 6] rfl
  refine nx <| rl_ <| wl_ <| p_ H29 rfl rfl fun a30 H30 => wl_ <| i_ H30 rfl (v := .int .i64 5) (dd_ari rfl rfl (H30.ev 26 rfl) rfl (by decide)) fun a31 H31 => wl_ <| p_ H31 rfl rfl fun a32 H32 => wl_ <| i_ H32 rfl (v := .int .u8 (bd (byteI (L.getD 0 0)))) (dd_conv (k := .u8) rfl (H32.ev 28 rfl) Tryd.underlying3 (by kernel_rfl) (wrap_u8_bd _)) fun a33 H33 => wl_ <| i_ H33 rfl (xA 9 1 5 rfl (H33.ev 3 rfl) (H33.ev 27 rfl)) fun a34 H34 => wl_ <| t_ rfl (S := [⟨g1, 45, #[.string (strB p), .slice (some ⟨bi, oi, none⟩) 1 ci]⟩, ⟨g2, 47, bs (zer 9)⟩, ⟨g3, 47, bs (((spl (zer 9) 0 (padN p)).set 4 (1#8)).set 5 (byteI (L.getD 0 0)))⟩, ⟨g4, 50, bs (padN p)⟩]) (fun _ h => dd_put HS19 2 5 rfl rfl (H34.ev 30 rfl) (H34.ev 29 rfl) (by kernel_rfl) rfl rfl (by rw [((size_bs _).trans (len_set (len_spl (length_zer 9) (length_padN _) (by decide))))]; rfl) (set_bs _ _ (byteI (L.getD 0 0))) h) fun W35 HS35 => ln_ <| bn <| nx <| rl_ <| wl_ <| i_ H34 rfl (v := .int .i64 1) (dd_ari rfl (H34.ev 21 rfl) rfl rfl (by decide)) fun a36 H36 => wl_ <| p_ H36 rfl rfl fun a37 H37 => ?_
  clear H28 H29 a28 H30 a30 H31 a31 H32 a32 H33 a33 HS19 H34 a34
  refine ln_ <| nx <| unr_go <| sq_ <| rl_ <| wl_ <| i_ H37 rfl (dd_cmp rfl (H37.ev 21 rfl) (H37.ev 20 rfl) (lt_f (by decide))) fun a38 H38 => ln_ <| nx <| sq_ <| cf_ H38 rfl <| wp_exit <| tx <| tx <| bx <| nx <| sq_ <| rl_ <| wl_ <| i_ H38 rfl (v := .agg (bs (((spl (zer 9) 0 (padN p)).set 4 (1#8)).set 5 (byteI (L.getD 0 0))))) (dd_load HS35 2 0 rfl rfl (H38.ev 3 rfl) (slab_whole _) Tryd.underlying47 rfl (by rw [show (bs (((spl (zer 9) 0 (padN p)).set 4 (1#8)).set 5 (byteI (L.getD 0 0)))).size = 9 from ((size_bs _).trans (len_set (len_set (len_spl (length_zer 9) (length_padN _) (by decide)))))]; kernel_rfl)) fun a39 H39 => wl_ <| t_ rfl (fun _ h => dd_setrow HS35 1 rfl rfl (H39.ev 2 rfl) (H39.ev 32 rfl) (by kernel_rfl) (((size_bs _).trans (len_set (len_set (len_spl (length_zer 9) (length_padN _) (by decide))))) : (bs (((spl (zer 9) 0 (padN p)).set 4 (1#8)).set 5 (byteI (L.getD 0 0)))).size = 9) (((size_bs _).trans (length_zer 9)) : (bs (zer 9)).size = 9) (one_bs _) h) fun W40 HS40 => ln_ <| nx <| wp_ret <| ret_run H39.env0 (res_c Tryd.results19 (H39.get 2 rfl) (HS40.row 1 rfl) Tryd.underlying47 rfl (by rw [show (bs (((spl (zer 9) 0 (padN p)).set 4 (1#8)).set 5 (byteI (L.getD 0 0)))).size = 9 from ((size_bs _).trans (len_set (len_set (len_spl (length_zer 9) (length_padN _) (by decide)))))]; kernel_rfl)) <| ?_
  clear H36 a36 H37 a37 H38 a38 HS35
  exact ⟨by rw [tb_eq1 p L hL], HS40.below⟩
theorem tb_eq2 (p : List (BitVec 8)) (L : List Int) (hL : L.length = 2) : (((spl (zer 9) 0 (padN p)).set 4 (2#8)).set 5 (byteI (L.getD 0 0))).set 6 (byteI (L.getD 1 0)) = volE (p, L) := by
  have hP := length_padN p
  unfold volE
  simp only
  generalize padN p = P at *
  obtain ⟨a, b, c, d, rfl⟩ := list_4 hP
  obtain ⟨x0, x1, rfl⟩ := list_2 hL
  rfl
set_option maxHeartbeats 800000 in
theorem tobytes2 (bi oi ci : Nat) (p : List (BitVec 8)) (L : List Int) (w : World) (hi : IntsAt w (.slice (some ⟨bi, oi, none⟩) 2 ci) L) :
    Calls Tryd.prog 19 #[.agg #[.string (strB p), .slice (some ⟨bi, oi, none⟩) 2 ci]] w fun e w' => e = .returned (.agg (bs (volE (p, L)))) ∧ Below w.heap.size w w' := by
  have HS := St.nil w noF
  have HI : ∀ W, Below w.heap.size w W → IntsAt W (.slice (some ⟨bi, oi, none⟩) 2 ci) L := fun W hb => hi.below hb (Nat.le_refl _)
  have hL : L.length = 2 := ints_len hi
  refine enter_en Tryd.func19 rfl Tryd.ntmps19 (Nat.le_of_ble_eq_true rfl) fun a0 (HA0 : En 33 [(0, .agg #[.string (strB p), .slice (some ⟨bi, oi, none⟩) 2 ci])] a0) => ?_
  refine sq_ <| rl_ <| wl_ <| n_ HA0 rfl (fun _ h => dd_box HS rfl (HA0.ev 0 rfl) (cs := #[.string (strB p), .slice (some ⟨bi, oi, none⟩) 2 ci]) rfl h) fun g1 W1 HS1 a1 H1 => wl_ <| n_ H1 rfl (fun _ h => dd_new HS1 (bs (zer 9)) rfl (z := .agg (bs (zer 9))) (by kernel_rfl) rfl h) fun g2 W2 HS2 a2 H2 => ln_ <| nx <| sq_ <| rl_ <| wl_ <| n_ H2 rfl (fun _ h => dd_new HS2 (bs (zer 9)) rfl (z := .agg (bs (zer 9))) (by kernel_rfl) rfl h) fun g3 W3 HS3 a3 H3 => ln_ <| nx <| sq_ <| rl_ <| wl_ <| i_ H3 rfl (xf 0 0 rfl (H3.ev 1 rfl)) fun a4 H4 => wl_ <| i_ H4 rfl (dd_get HS3 0 0 rfl rfl (H4.ev 7 rfl) rfl Tryd.underlying9 rfl) fun a5 H5 => wl_ <| c_ H5 rfl HS3 (dcs Tryd.func27 rfl (args1 (H5.ev 8 rfl)) (pad_any p W3) (.agg (bs (padN p)))) fun W6 HS6 a6 H6 => wl_ <| n_ H6 rfl (fun _ h => dd_new HS6 (bs (zer 4)) rfl (z := .agg (bs (zer 4))) (by kernel_rfl) rfl h) fun g4 W7 HS7 a7 H7 => wl_ <| t_ rfl (fun _ h => dd_setrow HS7 3 rfl rfl (H7.ev 4 rfl) (H7.ev 9 rfl) (by kernel_rfl) (((size_bs _).trans (length_padN _)) : (bs (padN p)).size = 4) (((size_bs _).trans (length_zer 4)) : (bs (zer 4)).size = 4) (one_bs _) h) fun W8 HS8 => ?_
  clear HS HA0 a0 HS1 H1 a1 HS2 H2 a2 H3 a3 H4 a4 H5 a5 HS3 HS6 H6 a6
  refine ln_ <| nx <| sq_ <| ?_
  clear HS7
  refine wi_ HS8 [0, 1, 3] rfl [0, 1, 3, 2] rfl fun HSh9 hx9 => ht_ H7 0 hx9 rfl rfl (v := .slice (some ⟨g3, 0, none⟩) 9 9) (fun _ _ _ => dd_slAl (l := 0) (n := 9) (sz := 1) (j := 0) rfl (H7.ev 3 rfl) rfl (by kernel_rfl) (by decide) (by rfl) rfl) fun a10 H10 => ht_ H10 1 hx9 rfl rfl (v := .slice (some ⟨g4, 0, none⟩) 4 4) (fun _ _ _ => dd_slA (n := 4) (sz := 1) rfl (H10.ev 4 rfl) (by kernel_rfl)) fun a11 H11 => h1_ 2 rfl <| tv H11 rfl (S := [⟨g1, 45, #[.string (strB p), .slice (some ⟨bi, oi, none⟩) 2 ci]⟩, ⟨g2, 47, bs (zer 9)⟩, ⟨g3, 47, bs (spl (zer 9) 0 (padN p))⟩, ⟨g4, 50, bs (padN p)⟩]) (v := .int .i64 4) (fun _ h => dd_copyR HSh9 2 rfl (length_zer 9) rfl (H11.ev 10 rfl) (H11.ev 11 rfl) (slice_part (HSh9.row 3 rfl) 0 (bytes_slab (slab_whole _)) (length_padN _) (by decide)) (length_padN _) (by decide) (by decide) h) fun W12 HS12 a12 H12 => sx_ (sxi HS12 [0, 1, 3, 2] rfl) fun hx13 => ?_
  clear HS8 H7 a7 H10 a10 HSh9 H11 a11 hx9
  refine wpAnyH_done (by kernel_rfl) ?_ _
  clear hx13
  refine nx <| sq_ <| rl_ <| wl_ <| i_ H12 rfl (xf 1 1 rfl (H12.ev 1 rfl)) fun a14 H14 => wl_ <| i_ H14 rfl (dd_get HS12 0 1 rfl rfl (H14.ev 13 rfl) rfl Tryd.underlying43 rfl) fun a15 H15 => wl_ <| i_ H15 rfl (v := .int .i64 2) (dd_len rfl (H15.ev 14 rfl) Tryd.underlying43) fun a16 H16 => wl_ <| i_ H16 rfl (v := .int .u8 2) (dd_conv (k := .u8) rfl (H16.ev 15 rfl) Tryd.underlying3 (by kernel_rfl) (by decide)) fun a17 H17 => wl_ <| i_ H17 rfl (xA 9 1 4 rfl (H17.ev 3 rfl) rfl) fun a18 H18 => wl_ <| t_ rfl (S := [⟨g1, 45, #[.string (strB p), .slice (some ⟨bi, oi, none⟩) 2 ci]⟩, ⟨g2, 47, bs (zer 9)⟩, ⟨g3, 47, bs ((spl (zer 9) 0 (padN p)).set 4 (2#8))⟩, ⟨g4, 50, bs (padN p)⟩]) (fun _ h => dd_put HS12 2 4 rfl rfl (H18.ev 17 rfl) (H18.ev 16 rfl) (by kernel_rfl) rfl rfl (by rw [((size_bs _).trans (len_spl (length_zer 9) (length_padN _) (by decide)))]; rfl) (set_bs _ _ (2#8)) h) fun W19 HS19 => ln_ <| nx <| sq_ <| sq_ <| rl_ <| wl_ <| i_ H18 rfl (xf 1 1 rfl (H18.ev 1 rfl)) fun a20 H20 => wl_ <| i_ H20 rfl (dd_get HS19 0 1 rfl rfl (H20.ev 18 rfl) rfl Tryd.underlying43 rfl) fun a21 H21 => ?_
  clear H12 a12 H14 a14 H15 a15 H16 a16 H17 a17 HS12 H18 a18
  refine wl_ <| i_ H21 rfl (v := .int .i64 2) (dd_len rfl (H21.ev 19 rfl) Tryd.underlying43) fun a22 H22 => wl_ <| p_ H22 rfl rfl fun a23 H23 => ln_ <| nx <| wp_block <| wp_unr 3 <| unr_go <| sq_ <| rl_ <| wl_ <| i_ H23 rfl (dd_cmp rfl (H23.ev 21 rfl) (H23.ev 20 rfl) (lt_t (by decide))) fun a24 H24 => ln_ <| nx <| sq_ <| ct_ H24 rfl <| wp_skip <| nx <| sq_ <| wp_block <| sq_ <| rl_ <| wl_ <| p_ H24 rfl rfl fun a25 H25 => wl_ <| i_ H25 rfl (xS 1 (oi + 0) rfl (H25.ev 19 rfl) (H25.ev 21 rfl)) fun a26 H26 => wl_ <| i_ H26 rfl (dd_at rfl (H26.ev 24 rfl) (ints_at (HI _ HS19.below) 0 (by decide)) Tryd.underlying3 rfl) fun a27 H27 => q_ H27 2 rfl fun a28 H28 => ln_ <| ?_
  clear H20 a20 H21 a21 H22 a22 H23 a23 H24 a24 H25 a25 H26 a26 H27 a27
  have H29 := H28.sel [2, 3, 19, 20, 21, 5, 6] rfl
  refine nx <| rl_ <| wl_ <| p_ H29 rfl rfl fun a30 H30 => wl_ <| i_ H30 rfl (v := .int .i64 5) (dd_ari rfl rfl (H30.ev 26 rfl) rfl (by decide)) fun a31 H31 => wl_ <| p_ H31 rfl rfl fun a32 H32 => wl_ <| i_ H32 rfl (v := .int .u8 (bd (byteI (L.getD 0 0)))) (dd_conv (k := .u8) rfl (H32.ev 28 rfl) Tryd.underlying3 (by kernel_rfl) (wrap_u8_bd _)) fun a33 H33 => wl_ <| i_ H33 rfl (xA 9 1 5 rfl (H33.ev 3 rfl) (H33.ev 27 rfl)) fun a34 H34 => wl_ <| t_ rfl (S := [⟨g1, 45, #[.string (strB p), .slice (some ⟨bi, oi, none⟩) 2 ci]⟩, ⟨g2, 47, bs (zer 9)⟩, ⟨g3, 47, bs (((spl (zer 9) 0 (padN p)).set 4 (2#8)).set 5 (byteI (L.getD 0 0)))⟩, ⟨g4, 50, bs (padN p)⟩]) (fun _ h => dd_put HS19 2 5 rfl rfl (H34.ev 30 rfl) (H34.ev 29 rfl) (by kernel_rfl) rfl rfl (by rw [((size_bs _).trans (len_set (len_spl (length_zer 9) (length_padN _) (by decide))))]; rfl) (set_bs _ _ (byteI (L.getD 0 0))) h) fun W35 HS35 => ln_ <| bn <| nx <| rl_ <| wl_ <| i_ H34 rfl (v := .int .i64 1) (dd_ari rfl (H34.ev 21 rfl) rfl rfl (by decide)) fun a36 H36 => wl_ <| p_ H36 rfl rfl fun a37 H37 => ?_
  clear H28 H29 a28 H30 a30 H31 a31 H32 a32 H33 a33 HS19 H34 a34
  refine ln_ <| nx <| unr_go <| sq_ <| rl_ <| wl_ <| i_ H37 rfl (dd_cmp rfl (H37.ev 21 rfl) (H37.ev 20 rfl) (lt_t (by decide))) fun a38 H38 => ln_ <| nx <| sq_ <| ct_ H38 rfl <| wp_skip <| nx <| sq_ <| wp_block <| sq_ <| rl_ <| wl_ <| p_ H38 rfl rfl fun a39 H39 => wl_ <| i_ H39 rfl (xS 1 (oi + 1) rfl (H39.ev 19 rfl) (H39.ev 21 rfl)) fun a40 H40 => wl_ <| i_ H40 rfl (dd_at rfl (H40.ev 24 rfl) (ints_at (HI _ HS35.below) 1 (by decide)) Tryd.underlying3 rfl) fun a41 H41 => q_ H41 2 rfl fun a42 H42 => ln_ <| nx <| rl_ <| wl_ <| p_ H42 rfl rfl fun a43 H43 => wl_ <| i_ H43 rfl (v := .int .i64 6) (dd_ari rfl rfl (H43.ev 26 rfl) rfl (by decide)) fun a44 H44 => wl_ <| p_ H44 rfl rfl fun a45 H45 => ?_
  clear H36 a36 H37 a37 H38 a38 H39 a39 H40 a40 H41 a41 H42 a42 H43 a43
  refine wl_ <| i_ H45 rfl (v := .int .u8 (bd (byteI (L.getD 1 0)))) (dd_conv (k := .u8) rfl (H45.ev 28 rfl) Tryd.underlying3 (by kernel_rfl) (wrap_u8_bd _)) fun a46 H46 => wl_ <| i_ H46 rfl (xA 9 1 6 rfl (H46.ev 3 rfl) (H46.ev 27 rfl)) fun a47 H47 => wl_ <| t_ rfl (S := [⟨g1, 45, #[.string (strB p), .slice (some ⟨bi, oi, none⟩) 2 ci]⟩, ⟨g2, 47, bs (zer 9)⟩, ⟨g3, 47, bs ((((spl (zer 9) 0 (padN p)).set 4 (2#8)).set 5 (byteI (L.getD 0 0))).set 6 (byteI (L.getD 1 0)))⟩, ⟨g4, 50, bs (padN p)⟩]) (fun _ h => dd_put HS35 2 6 rfl rfl (H47.ev 30 rfl) (H47.ev 29 rfl) (by kernel_rfl) rfl rfl (by rw [((size_bs _).trans (len_set (len_set (len_spl (length_zer 9) (length_padN _) (by decide)))))]; rfl) (set_bs _ _ (byteI (L.getD 1 0))) h) fun W48 HS48 => ln_ <| bn <| nx <| rl_ <| wl_ <| i_ H47 rfl (v := .int .i64 2) (dd_ari rfl (H47.ev 21 rfl) rfl rfl (by decide)) fun a49 H49 => wl_ <| p_ H49 rfl rfl fun a50 H50 => ln_ <| nx <| unr_go <| sq_ <| rl_ <| wl_ <| i_ H50 rfl (dd_cmp rfl (H50.ev 21 rfl) (H50.ev 20 rfl) (lt_f (by decide))) fun a51 H51 => ln_ <| nx <| sq_ <| cf_ H51 rfl <| wp_exit <| tx <| tx <| bx <| nx <| sq_ <| rl_ <| wl_ <| i_ H51 rfl (v := .agg (bs ((((spl (zer 9) 0 (padN p)).set 4 (2#8)).set 5 (byteI (L.getD 0 0))).set 6 (byteI (L.getD 1 0))))) (dd_load HS48 2 0 rfl rfl (H51.ev 3 rfl) (slab_whole _) Tryd.underlying47 rfl (by rw [show (bs ((((spl (zer 9) 0 (padN p)).set 4 (2#8)).set 5 (byteI (L.getD 0 0))).set 6 (byteI (L.getD 1 0)))).size = 9 from ((size_bs _).trans (len_set (len_set (len_set (len_spl (length_zer 9) (length_padN _) (by decide))))))]; kernel_rfl)) fun a52 H52 => wl_ <| t_ rfl (fun _ h => dd_setrow HS48 1 rfl rfl (H52.ev 2 rfl) (H52.ev 32 rfl) (by kernel_rfl) (((size_bs _).trans (len_set (len_set (len_set (len_spl (length_zer 9) (length_padN _) (by decide)))))) : (bs ((((spl (zer 9) 0 (padN p)).set 4 (2#8)).set 5 (byteI (L.getD 0 0))).set 6 (byteI (L.getD 1 0)))).size = 9) (((size_bs _).trans (length_zer 9)) : (bs (zer 9)).size = 9) (one_bs _) h) fun W53 HS53 => ?_
  clear H44 a44 H45 a45 H46 a46 HS35 H47 a47 H49 a49 H50 a50 H51 a51
  refine ln_ <| ?_
  clear HS48
  have H54 := H52.sel [2] rfl
  refine nx <| wp_ret <| ret_run H54.env0 (res_c Tryd.results19 (H54.get 2 rfl) (HS53.row 1 rfl) Tryd.underlying47 rfl (by rw [show (bs ((((spl (zer 9) 0 (padN p)).set 4 (2#8)).set 5 (byteI (L.getD 0 0))).set 6 (byteI (L.getD 1 0)))).size = 9 from ((size_bs _).trans (len_set (len_set (len_set (len_spl (length_zer 9) (length_padN _) (by decide))))))]; kernel_rfl)) <| ?_
  clear H52
  exact ⟨by rw [tb_eq2 p L hL], HS53.below⟩
theorem tb_eq3 (p : List (BitVec 8)) (L : List Int) (hL : L.length = 3) : ((((spl (zer 9) 0 (padN p)).set 4 (3#8)).set 5 (byteI (L.getD 0 0))).set 6 (byteI (L.getD 1 0))).set 7 (byteI (L.getD 2 0)) = volE (p, L) := by
  have hP := length_padN p
  unfold volE
  simp only
  generalize padN p = P at *
  obtain ⟨a, b, c, d, rfl⟩ := list_4 hP
  obtain ⟨x0, x1, x2, rfl⟩ := list_3 hL
  rfl
set_option maxHeartbeats 800000 in
theorem tobytes3 (bi oi ci : Nat) (p : List (BitVec 8)) (L : List Int) (w : World) (hi : IntsAt w (.slice (some ⟨bi, oi, none⟩) 3 ci) L) :
    Calls Tryd.prog 19 #[.agg #[.string (strB p), .slice (some ⟨bi, oi, none⟩) 3 ci]] w fun e w' => e = .returned (.agg (bs (volE (p, L)))) ∧ Below w.heap.size w w' := by
  have HS := St.nil w noF
  have HI : ∀ W, Below w.heap.size w W → IntsAt W (.slice (some ⟨bi, oi, none⟩) 3 ci) L := fun W hb => hi.below hb (Nat.le_refl _)
  have hL : L.length = 3 := ints_len hi
  refine enter_en Tryd.func19 rfl Tryd.ntmps19 (Nat.le_of_ble_eq_true rfl) fun a0 (HA0 : En 33 [(0, .agg #[.string (strB p), .slice (some ⟨bi, oi, none⟩) 3 ci])] a0) => ?_
  refine sq_ <| rl_ <| wl_ <| n_ HA0 rfl (fun _ h => dd_box HS rfl (HA0.ev 0 rfl) (cs := #[.string (strB p), .slice (some ⟨bi, oi, none⟩) 3 ci]) rfl h) fun g1 W1 HS1 a1 H1 => wl_ <| n_ H1 rfl (fun _ h => dd_new HS1 (bs (zer 9)) rfl (z := .agg (bs (zer 9))) (by kernel_rfl) rfl h) fun g2 W2 HS2 a2 H2 => ln_ <| nx <| sq_ <| rl_ <| wl_ <| n_ H2 rfl (fun _ h => dd_new HS2 (bs (zer 9)) rfl (z := .agg (bs (zer 9))) (by kernel_rfl) rfl h) fun g3 W3 HS3 a3 H3 => ln_ <| nx <| sq_ <| rl_ <| wl_ <| i_ H3 rfl (xf 0 0 rfl (H3.ev 1 rfl)) fun a4 H4 => wl_ <| i_ H4 rfl (dd_get HS3 0 0 rfl rfl (H4.ev 7 rfl) rfl Tryd.underlying9 rfl) fun a5 H5 => wl_ <| c_ H5 rfl HS3 (dcs Tryd.func27 rfl (args1 (H5.ev 8 rfl)) (pad_any p W3) (.agg (bs (padN p)))) fun W6 HS6 a6 H6 => wl_ <| n_ H6 rfl (fun _ h => dd_new HS6 (bs (zer 4)) rfl (z := .agg (bs (zer 4))) (by kernel_rfl) rfl h) fun g4 W7 HS7 a7 H7 => wl_ <| t_ rfl (fun _ h => dd_setrow HS7 3 rfl rfl (H7.ev 4 rfl) (H7.ev 9 rfl) (by kernel_rfl) (((size_bs _).trans (length_padN _)) : (bs (padN p)).size = 4) (((size_bs _).trans (length_zer 4)) : (bs (zer 4)).size = 4) (one_bs _) h) fun W8 HS8 => ?_
  clear HS HA0 a0 HS1 H1 a1 HS2 H2 a2 H3 a3 H4 a4 H5 a5 HS3 HS6 H6 a6
  refine ln_ <| nx <| sq_ <| ?_
  clear HS7
  refine wi_ HS8 [0, 1, 3] rfl [0, 1, 3, 2] rfl fun HSh9 hx9 => ht_ H7 0 hx9 rfl rfl (v := .slice (some ⟨g3, 0, none⟩) 9 9) (fun _ _ _ => dd_slAl (l := 0) (n := 9) (sz := 1) (j := 0) rfl (H7.ev 3 rfl) rfl (by kernel_rfl) (by decide) (by rfl) rfl) fun a10 H10 => ht_ H10 1 hx9 rfl rfl (v := .slice (some ⟨g4, 0, none⟩) 4 4) (fun _ _ _ => dd_slA (n := 4) (sz := 1) rfl (H10.ev 4 rfl) (by kernel_rfl)) fun a11 H11 => h1_ 2 rfl <| tv H11 rfl (S := [⟨g1, 45, #[.string (strB p), .slice (some ⟨bi, oi, none⟩) 3 ci]⟩, ⟨g2, 47, bs (zer 9)⟩, ⟨g3, 47, bs (spl (zer 9) 0 (padN p))⟩, ⟨g4, 50, bs (padN p)⟩]) (v := .int .i64 4) (fun _ h => dd_copyR HSh9 2 rfl (length_zer 9) rfl (H11.ev 10 rfl) (H11.ev 11 rfl) (slice_part (HSh9.row 3 rfl) 0 (bytes_slab (slab_whole _)) (length_padN _) (by decide)) (length_padN _) (by decide) (by decide) h) fun W12 HS12 a12 H12 => sx_ (sxi HS12 [0, 1, 3, 2] rfl) fun hx13 => ?_
  clear HS8 H7 a7 H10 a10 HSh9 H11 a11 hx9
  refine wpAnyH_done (by kernel_rfl) ?_ _
  clear hx13
  refine nx <| sq_ <| rl_ <| wl_ <| i_ H12 rfl (xf 1 1 rfl (H12.ev 1 rfl)) fun a14 H14 => wl_ <| i_ H14 rfl (dd_get HS12 0 1 rfl rfl (H14.ev 13 rfl) rfl Tryd.underlying43 rfl) fun a15 H15 => wl_ <| i_ H15 rfl (v := .int .i64 3) (dd_len rfl (H15.ev 14 rfl) Tryd.underlying43) fun a16 H16 => wl_ <| i_ H16 rfl (v := .int .u8 3) (dd_conv (k := .u8) rfl (H16.ev 15 rfl) Tryd.underlying3 (by kernel_rfl) (by decide)) fun a17 H17 => wl_ <| i_ H17 rfl (xA 9 1 4 rfl (H17.ev 3 rfl) rfl) fun a18 H18 => wl_ <| t_ rfl (S := [⟨g1, 45, #[.string (strB p), .slice (some ⟨bi, oi, none⟩) 3 ci]⟩, ⟨g2, 47, bs (zer 9)⟩, ⟨g3, 47, bs ((spl (zer 9) 0 (padN p)).set 4 (3#8))⟩, ⟨g4, 50, bs (padN p)⟩]) (fun _ h => dd_put HS12 2 4 rfl rfl (H18.ev 17 rfl) (H18.ev 16 rfl) (by kernel_rfl) rfl rfl (by rw [((size_bs _).trans (len_spl (length_zer 9) (length_padN _) (by decide)))]; rfl) (set_bs _ _ (3#8)) h) fun W19 HS19 => ln_ <| nx <| sq_ <| sq_ <| rl_ <| wl_ <| i_ H18 rfl (xf 1 1 rfl (H18.ev 1 rfl)) fun a20 H20 => wl_ <| i_ H20 rfl (dd_get HS19 0 1 rfl rfl (H20.ev 18 rfl) rfl Tryd.underlying43 rfl) fun a21 H21 => ?_
  clear H12 a12 H14 a14 H15 a15 H16 a16 H17 a17 HS12 H18 a18
  refine wl_ <| i_ H21 rfl (v := .int .i64 3) (dd_len rfl (H21.ev 19 rfl) Tryd.underlying43) fun a22 H22 => wl_ <| p_ H22 rfl rfl fun a23 H23 => ln_ <| nx <| wp_block <| wp_unr 4 <| unr_go <| sq_ <| rl_ <| wl_ <| i_ H23 rfl (dd_cmp rfl (H23.ev 21 rfl) (H23.ev 20 rfl) (lt_t (by decide))) fun a24 H24 => ln_ <| nx <| sq_ <| ct_ H24 rfl <| wp_skip <| nx <| sq_ <| wp_block <| sq_ <| rl_ <| wl_ <| p_ H24 rfl rfl fun a25 H25 => wl_ <| i_ H25 rfl (xS 1 (oi + 0) rfl (H25.ev 19 rfl) (H25.ev 21 rfl)) fun a26 H26 => wl_ <| i_ H26 rfl (dd_at rfl (H26.ev 24 rfl) (ints_at (HI _ HS19.below) 0 (by decide)) Tryd.underlying3 rfl) fun a27 H27 => q_ H27 2 rfl fun a28 H28 => ln_ <| ?_
  clear H20 a20 H21 a21 H22 a22 H23 a23 H24 a24 H25 a25 H26 a26 H27 a27
  have H29 := H28.sel [2, 3, 19, 20, 21, 5, 6] rfl
  refine nx <| rl_ <| wl_ <| p_ H29 rfl rfl fun a30 H30 => wl_ <| i_ H30 rfl (v := .int .i64 5) (dd_ari rfl rfl (H30.ev 26 rfl) rfl (by decide)) fun a31 H31 => wl_ <| p_ H31 rfl rfl fun a32 H32 => wl_ <| i_ H32 rfl (v := .int .u8 (bd (byteI (L.getD 0 0)))) (dd_conv (k := .u8) rfl (H32.ev 28 rfl) Tryd.underlying3 (by kernel_rfl) (wrap_u8_bd _)) fun a33 H33 => wl_ <| i_ H33 rfl (xA 9 1 5 rfl (H33.ev 3 rfl) (H33.ev 27 rfl)) fun a34 H34 => wl_ <| t_ rfl (S := [⟨g1, 45, #[.string (strB p), .slice (some ⟨bi, oi, none⟩) 3 ci]⟩, ⟨g2, 47, bs (zer 9)⟩, ⟨g3, 47, bs (((spl (zer 9) 0 (padN p)).set 4 (3#8)).set 5 (byteI (L.getD 0 0)))⟩, ⟨g4, 50, bs (padN p)⟩]) (fun _ h => dd_put HS19 2 5 rfl rfl (H34.ev 30 rfl) (H34.ev 29 rfl) (by kernel_rfl) rfl rfl (by rw [((size_bs _).trans (len_set (len_spl (length_zer 9) (length_padN _) (by decide))))]; rfl) (set_bs _ _ (byteI (L.getD 0 0))) h) fun W35 HS35 => ln_ <| bn <| nx <| rl_ <| wl_ <| i_ H34 rfl (v := .int .i64 1) (dd_ari rfl (H34.ev 21 rfl) rfl rfl (by decide)) fun a36 H36 => wl_ <| p_ H36 rfl rfl fun a37 H37 => ?_
  clear H28 H29 a28 H30 a30 H31 a31 H32 a32 H33 a33 HS19 H34 a34
  refine ln_ <| nx <| unr_go <| sq_ <| rl_ <| wl_ <| i_ H37 rfl (dd_cmp rfl (H37.ev 21 rfl) (H37.ev 20 rfl) (lt_t (by decide))) fun a38 H38 => ln_ <| nx <| sq_ <| ct_ H38 rfl <| wp_skip <| nx <| sq_ <| wp_block <| sq_ <| rl_ <| wl_ <| p_ H38 rfl rfl fun a39 H39 => wl_ <| i_ H39 rfl (xS 1 (oi + 1) rfl (H39.ev 19 rfl) (H39.ev 21 rfl)) fun a40 H40 => wl_ <| i_ H40 rfl (dd_at rfl (H40.ev 24 rfl) (ints_at (HI _ HS35.below) 1 (by decide)) Tryd.underlying3 rfl) fun a41 H41 => q_ H41 2 rfl fun a42 H42 => ln_ <| nx <| rl_ <| wl_ <| p_ H42 rfl rfl fun a43 H43 => wl_ <| i_ H43 rfl (v := .int .i64 6) (dd_ari rfl rfl (H43.ev 26 rfl) rfl (by decide)) fun a44 H44 => wl_ <| p_ H44 rfl rfl fun a45 H45 => ?_
  clear H36 a36 H37 a37 H38 a38 H39 a39 H40 a40 H41 a41 H42 a42 H43 a43
  refine wl_ <| i_ H45 rfl (v := .int .u8 (bd (byteI (L.getD 1 0)))) (dd_conv (k := .u8) rfl (H45.ev 28 rfl) Tryd.underlying3 (by kernel_rfl) (wrap_u8_bd _)) fun a46 H46 => wl_ <| i_ H46 rfl (xA 9 1 6 rfl (H46.ev 3 rfl) (H46.ev 27 rfl)) fun a47 H47 => wl_ <| t_ rfl (S := [⟨g1, 45, #[.string (strB p), .slice (some ⟨bi, oi, none⟩) 3 ci]⟩, ⟨g2, 47, bs (zer 9)⟩, ⟨g3, 47, bs ((((spl (zer 9) 0 (padN p)).set 4 (3#8)).set 5 (byteI (L.getD 0 0))).set 6 (byteI (L.getD 1 0)))⟩, ⟨g4, 50, bs (padN p)⟩]) (fun _ h => dd_put HS35 2 6 rfl rfl (H47.ev 30 rfl) (H47.ev 29 rfl) (by kernel_rfl) rfl rfl (by rw [((size_bs _).trans (len_set (len_set (len_spl (length_zer 9) (length_padN _) (by decide)))))]; rfl) (set_bs _ _ (byteI (L.getD 1 0))) h) fun W48 HS48 => ln_ <| bn <| nx <| rl_ <| wl_ <| i_ H47 rfl (v := .int .i64 2) (dd_ari rfl (H47.ev 21 rfl) rfl rfl (by decide)) fun a49 H49 => wl_ <| p_ H49 rfl rfl fun a50 H50 => ln_ <| nx <| unr_go <| sq_ <| rl_ <| wl_ <| i_ H50 rfl (dd_cmp rfl (H50.ev 21 rfl) (H50.ev 20 rfl) (lt_t (by decide))) fun a51 H51 => ln_ <| nx <| sq_ <| ct_ H51 rfl <| wp_skip <| nx <| sq_ <| wp_block <| sq_ <| rl_ <| wl_ <| p_ H51 rfl rfl fun a52 H52 => wl_ <| i_ H52 rfl (xS 1 (oi + 2) rfl (H52.ev 19 rfl) (H52.ev 21 rfl)) fun a53 H53 => ?_
  clear H44 a44 H45 a45 H46 a46 HS35 H47 a47 H49 a49 H50 a50 H51 a51
  refine wl_ <| i_ H53 rfl (dd_at rfl (H53.ev 24 rfl) (ints_at (HI _ HS48.below) 2 (by decide)) Tryd.underlying3 rfl) fun a54 H54 => q_ H54 2 rfl fun a55 H55 => ln_ <| nx <| rl_ <| wl_ <| p_ H55 rfl rfl fun a56 H56 => wl_ <| i_ H56 rfl (v := .int .i64 7) (dd_ari rfl rfl (H56.ev 26 rfl) rfl (by decide)) fun a57 H57 => wl_ <| p_ H57 rfl rfl fun a58 H58 => wl_ <| i_ H58 rfl (v := .int .u8 (bd (byteI (L.getD 2 0)))) (dd_conv (k := .u8) rfl (H58.ev 28 rfl) Tryd.underlying3 (by kernel_rfl) (wrap_u8_bd _)) fun a59 H59 => wl_ <| i_ H59 rfl (xA 9 1 7 rfl (H59.ev 3 rfl) (H59.ev 27 rfl)) fun a60 H60 => wl_ <| t_ rfl (S := [⟨g1, 45, #[.string (strB p), .slice (some ⟨bi, oi, none⟩) 3 ci]⟩, ⟨g2, 47, bs (zer 9)⟩, ⟨g3, 47, bs (((((spl (zer 9) 0 (padN p)).set 4 (3#8)).set 5 (byteI (L.getD 0 0))).set 6 (byteI (L.getD 1 0))).set 7 (byteI (L.getD 2 0)))⟩, ⟨g4, 50, bs (padN p)⟩]) (fun _ h => dd_put HS48 2 7 rfl rfl (H60.ev 30 rfl) (H60.ev 29 rfl) (by kernel_rfl) rfl rfl (by rw [((size_bs _).trans (len_set (len_set (len_set (len_spl (length_zer 9) (length_padN _) (by decide))))))]; rfl) (set_bs _ _ (byteI (L.getD 2 0))) h) fun W61 HS61 => ?_
  clear H52 a52 H53 a53 H54 a54 H55 a55 H56 a56 H57 a57 H58 a58 H59 a59
  refine ln_ <| bn <| nx <| rl_ <| wl_ <| i_ H60 rfl (v := .int .i64 3) (dd_ari rfl (H60.ev 21 rfl) rfl rfl (by decide)) fun a62 H62 => wl_ <| p_ H62 rfl rfl fun a63 H63 => ln_ <| nx <| unr_go <| sq_ <| rl_ <| wl_ <| i_ H63 rfl (dd_cmp rfl (H63.ev 21 rfl) (H63.ev 20 rfl) (lt_f (by decide))) fun a64 H64 => ln_ <| nx <| sq_ <| cf_ H64 rfl <| wp_exit <| tx <| tx <| bx <| nx <| sq_ <| rl_ <| wl_ <| i_ H64 rfl (v := .agg (bs (((((spl (zer 9) 0 (padN p)).set 4 (3#8)).set 5 (byteI (L.getD 0 0))).set 6 (byteI (L.getD 1 0))).set 7 (byteI (L.getD 2 0))))) (dd_load HS61 2 0 rfl rfl (H64.ev 3 rfl) (slab_whole _) Tryd.underlying47 rfl (by rw [show (bs (((((spl (zer 9) 0 (padN p)).set 4 (3#8)).set 5 (byteI (L.getD 0 0))).set 6 (byteI (L.getD 1 0))).set 7 (byteI (L.getD 2 0)))).size = 9 from ((size_bs _).trans (len_set (len_set (len_set (len_set (len_spl (length_zer 9) (length_padN _) (by decide)))))))]; kernel_rfl)) fun a65 H65 => wl_ <| t_ rfl (fun _ h => dd_setrow HS61 1 rfl rfl (H65.ev 2 rfl) (H65.ev 32 rfl) (by kernel_rfl) (((size_bs _).trans (len_set (len_set (len_set (len_set (len_spl (length_zer 9) (length_padN _) (by decide))))))) : (bs (((((spl (zer 9) 0 (padN p)).set 4 (3#8)).set 5 (byteI (L.getD 0 0))).set 6 (byteI (L.getD 1 0))).set 7 (byteI (L.getD 2 0)))).size = 9) (((size_bs _).trans (length_zer 9)) : (bs (zer 9)).size = 9) (one_bs _) h) fun W66 HS66 => ln_ <| ?_
  clear HS48 H60 a60 H62 a62 H63 a63 H64 a64 HS61
  have H67 := H65.sel [2] rfl
  refine nx <| wp_ret <| ret_run H67.env0 (res_c Tryd.results19 (H67.get 2 rfl) (HS66.row 1 rfl) Tryd.underlying47 rfl (by rw [show (bs (((((spl (zer 9) 0 (padN p)).set 4 (3#8)).set 5 (byteI (L.getD 0 0))).set 6 (byteI (L.getD 1 0))).set 7 (byteI (L.getD 2 0)))).size = 9 from ((size_bs _).trans (len_set (len_set (len_set (len_set (len_spl (length_zer 9) (length_padN _) (by decide)))))))]; kernel_rfl)) <| ?_
  clear H65
  exact ⟨by rw [tb_eq3 p L hL], HS66.below⟩
theorem tb_eq4 (p : List (BitVec 8)) (L : List Int) (hL : L.length = 4) : (((((spl (zer 9) 0 (padN p)).set 4 (4#8)).set 5 (byteI (L.getD 0 0))).set 6 (byteI (L.getD 1 0))).set 7 (byteI (L.getD 2 0))).set 8 (byteI (L.getD 3 0)) = volE (p, L) := by
  have hP := length_padN p
  unfold volE
  simp only
  generalize padN p = P at *
  obtain ⟨a, b, c, d, rfl⟩ := list_4 hP
  obtain ⟨x0, x1, x2, x3, rfl⟩ := list_4 hL
  rfl
set_option maxHeartbeats 800000 in
theorem tobytes4 (bi oi ci : Nat) (p : List (BitVec 8)) (L : List Int) (w : World) (hi : IntsAt w (.slice (some ⟨bi, oi, none⟩) 4 ci) L) :
    Calls Tryd.prog 19 #[.agg #[.string (strB p), .slice (some ⟨bi, oi, none⟩) 4 ci]] w fun e w' => e = .returned (.agg (bs (volE (p, L)))) ∧ Below w.heap.size w w' := by
  have HS := St.nil w noF
  have HI : ∀ W, Below w.heap.size w W → IntsAt W (.slice (some ⟨bi, oi, none⟩) 4 ci) L := fun W hb => hi.below hb (Nat.le_refl _)
  have hL : L.length = 4 := ints_len hi
  refine enter_en Tryd.func19 rfl Tryd.ntmps19 (Nat.le_of_ble_eq_true rfl) fun a0 (HA0 : En 33 [(0, .agg #[.string (strB p), .slice (some ⟨bi, oi, none⟩) 4 ci])] a0) => ?_
  refine sq_ <| rl_ <| wl_ <| n_ HA0 rfl (fun _ h => dd_box HS rfl (HA0.ev 0 rfl) (cs := #[.string (strB p), .slice (some ⟨bi, oi, none⟩) 4 ci]) rfl h) fun g1 W1 HS1 a1 H1 => wl_ <| n_ H1 rfl (fun _ h => dd_new HS1 (bs (zer 9)) rfl (z := .agg (bs (zer 9))) (by kernel_rfl) rfl h) fun g2 W2 HS2 a2 H2 => ln_ <| nx <| sq_ <| rl_ <| wl_ <| n_ H2 rfl (fun _ h => dd_new HS2 (bs (zer 9)) rfl (z := .agg (bs (zer 9))) (by kernel_rfl) rfl h) fun g3 W3 HS3 a3 H3 => ln_ <| nx <| sq_ <| rl_ <| wl_ <| i_ H3 rfl (xf 0 0 rfl (H3.ev 1 rfl)) fun a4 H4 => wl_ <| i_ H4 rfl (dd_get HS3 0 0 rfl rfl (H4.ev 7 rfl) rfl Tryd.underlying9 rfl) fun a5 H5 => wl_ <| c_ H5 rfl HS3 (dcs Tryd.func27 rfl (args1 (H5.ev 8 rfl)) (pad_any p W3) (.agg (bs (padN p)))) fun W6 HS6 a6 H6 => wl_ <| n_ H6 rfl (fun _ h => dd_new HS6 (bs (zer 4)) rfl (z := .agg (bs (zer 4))) (by kernel_rfl) rfl h) fun g4 W7 HS7 a7 H7 => wl_ <| t_ rfl (fun _ h => dd_setrow HS7 3 rfl rfl (H7.ev 4 rfl) (H7.ev 9 rfl) (by kernel_rfl) (((size_bs _).trans (length_padN _)) : (bs (padN p)).size = 4) (((size_bs _).trans (length_zer 4)) : (bs (zer 4)).size = 4) (one_bs _) h) fun W8 HS8 => ?_
  clear HS HA0 a0 HS1 H1 a1 HS2 H2 a2 H3 a3 H4 a4 H5 a5 HS3 HS6 H6 a6
  refine ln_ <| nx <| sq_ <| ?_
  clear HS7
  refine wi_ HS8 [0, 1, 3] rfl [0, 1, 3, 2] rfl fun HSh9 hx9 => ht_ H7 0 hx9 rfl rfl (v := .slice (some ⟨g3, 0, none⟩) 9 9) (fun _ _ _ => dd_slAl (l := 0) (n := 9) (sz := 1) (j := 0) rfl (H7.ev 3 rfl) rfl (by kernel_rfl) (by decide) (by rfl) rfl) fun a10 H10 => ht_ H10 1 hx9 rfl rfl (v := .slice (some ⟨g4, 0, none⟩) 4 4) (fun _ _ _ => dd_slA (n := 4) (sz := 1) rfl (H10.ev 4 rfl) (by kernel_rfl)) fun a11 H11 => h1_ 2 rfl <| tv H11 rfl (S := [⟨g1, 45, #[.string (strB p), .slice (some ⟨bi, oi, none⟩) 4 ci]⟩, ⟨g2, 47, bs (zer 9)⟩, ⟨g3, 47, bs (spl (zer 9) 0 (padN p))⟩, ⟨g4, 50, bs (padN p)⟩]) (v := .int .i64 4) (fun _ h => dd_copyR HSh9 2 rfl (length_zer 9) rfl (H11.ev 10 rfl) (H11.ev 11 rfl) (slice_part (HSh9.row 3 rfl) 0 (bytes_slab (slab_whole _)) (length_padN _) (by decide)) (length_padN _) (by decide) (by decide) h) fun W12 HS12 a12 H12 => sx_ (sxi HS12 [0, 1, 3, 2] rfl) fun hx13 => ?_
  clear HS8 H7 a7 H10 a10 HSh9 H11 a11 hx9
  refine wpAnyH_done (by kernel_rfl) ?_ _
  clear hx13
  refine nx <| sq_ <| rl_ <| wl_ <| i_ H12 rfl (xf 1 1 rfl (H12.ev 1 rfl)) fun a14 H14 => wl_ <| i_ H14 rfl (dd_get HS12 0 1 rfl rfl (H14.ev 13 rfl) rfl Tryd.underlying43 rfl) fun a15 H15 => wl_ <| i_ H15 rfl (v := .int .i64 4) (dd_len rfl (H15.ev 14 rfl) Tryd.underlying43) fun a16 H16 => wl_ <| i_ H16 rfl (v := .int .u8 4) (dd_conv (k := .u8) rfl (H16.ev 15 rfl) Tryd.underlying3 (by kernel_rfl) (by decide)) fun a17 H17 => wl_ <| i_ H17 rfl (xA 9 1 4 rfl (H17.ev 3 rfl) rfl) fun a18 H18 => wl_ <| t_ rfl (S := [⟨g1, 45, #[.string (strB p), .slice (some ⟨bi, oi, none⟩) 4 ci]⟩, ⟨g2, 47, bs (zer 9)⟩, ⟨g3, 47, bs ((spl (zer 9) 0 (padN p)).set 4 (4#8))⟩, ⟨g4, 50, bs (padN p)⟩]) (fun _ h => dd_put HS12 2 4 rfl rfl (H18.ev 17 rfl) (H18.ev 16 rfl) (by kernel_rfl) rfl rfl (by rw [((size_bs _).trans (len_spl (length_zer 9) (length_padN _) (by decide)))]; rfl) (set_bs _ _ (4#8)) h) fun W19 HS19 => ln_ <| nx <| sq_ <| sq_ <| rl_ <| wl_ <| i_ H18 rfl (xf 1 1 rfl (H18.ev 1 rfl)) fun a20 H20 => wl_ <| i_ H20 rfl (dd_get HS19 0 1 rfl rfl (H20.ev 18 rfl) rfl Tryd.underlying43 rfl) fun a21 H21 => ?_
  clear H12 a12 H14 a14 H15 a15 H16 a16 H17 a17 HS12 H18 a18
  refine wl_ <| i_ H21 rfl (v := .int .i64 4) (dd_len rfl (H21.ev 19 rfl) Tryd.underlying43) fun a22 H22 => wl_ <| p_ H22 rfl rfl fun a23 H23 => ln_ <| nx <| wp_block <| wp_unr 5 <| unr_go <| sq_ <| rl_ <| wl_ <| i_ H23 rfl (dd_cmp rfl (H23.ev 21 rfl) (H23.ev 20 rfl) (lt_t (by decide))) fun a24 H24 => ln_ <| nx <| sq_ <| ct_ H24 rfl <| wp_skip <| nx <| sq_ <| wp_block <| sq_ <| rl_ <| wl_ <| p_ H24 rfl rfl fun a25 H25 => wl_ <| i_ H25 rfl (xS 1 (oi + 0) rfl (H25.ev 19 rfl) (H25.ev 21 rfl)) fun a26 H26 => wl_ <| i_ H26 rfl (dd_at rfl (H26.ev 24 rfl) (ints_at (HI _ HS19.below) 0 (by decide)) Tryd.underlying3 rfl) fun a27 H27 => q_ H27 2 rfl fun a28 H28 => ln_ <| ?_
  clear H20 a20 H21 a21 H22 a22 H23 a23 H24 a24 H25 a25 H26 a26 H27 a27
  have H29 := H28.sel [2, 3, 19, 20, 21, 5, 6] rfl
  refine nx <| rl_ <| wl_ <| p_ H29 rfl rfl fun a30 H30 => wl_ <| i_ H30 rfl (v := .int .i64 5) (dd_ari rfl rfl (H30.ev 26 rfl) rfl (by decide)) fun a31 H31 => wl_ <| p_ H31 rfl rfl fun a32 H32 => wl_ <| i_ H32 rfl (v := .int .u8 (bd (byteI (L.getD 0 0)))) (dd_conv (k := .u8) rfl (H32.ev 28 rfl) Tryd.underlying3 (by kernel_rfl) (wrap_u8_bd _)) fun a33 H33 => wl_ <| i_ H33 rfl (xA 9 1 5 rfl (H33.ev 3 rfl) (H33.ev 27 rfl)) fun a34 H34 => wl_ <| t_ rfl (S := [⟨g1, 45, #[.string (strB p), .slice (some ⟨bi, oi, none⟩) 4 ci]⟩, ⟨g2, 47, bs (zer 9)⟩, ⟨g3, 47, bs (((spl (zer 9) 0 (padN p)).set 4 (4#8)).set 5 (byteI (L.getD 0 0)))⟩, ⟨g4, 50, bs (padN p)⟩]) (fun _ h => dd_put HS19 2 5 rfl rfl (H34.ev 30 rfl) (H34.ev 29 rfl) (by kernel_rfl) rfl rfl (by rw [((size_bs _).trans (len_set (len_spl (length_zer 9) (length_padN _) (by decide))))]; rfl) (set_bs _ _ (byteI (L.getD 0 0))) h) fun W35 HS35 => ln_ <| bn <| nx <| rl_ <| wl_ <| i_ H34 rfl (v := .int .i64 1) (dd_ari rfl (H34.ev 21 rfl) rfl rfl (by decide)) fun a36 H36 => wl_ <| p_ H36 rfl rfl fun a37 H37 => ?_
  clear H28 H29 a28 H30 a30 H31 a31 H32 a32 H33 a33 HS19 H34 a34
  refine ln_ <| nx <| unr_go <| sq_ <| rl_ <| wl_ <| i_ H37 rfl (dd_cmp rfl (H37.ev 21 rfl) (H37.ev 20 rfl) (lt_t (by decide))) fun a38 H38 => ln_ <| nx <| sq_ <| ct_ H38 rfl <| wp_skip <| nx <| sq_ <| wp_block <| sq_ <| rl_ <| wl_ <| p_ H38 rfl rfl fun a39 H39 => wl_ <| i_ H39 rfl (xS 1 (oi + 1) rfl (H39.ev 19 rfl) (H39.ev 21 rfl)) fun a40 H40 => wl_ <| i_ H40 rfl (dd_at rfl (H40.ev 24 rfl) (ints_at (HI _ HS35.below) 1 (by decide)) Tryd.underlying3 rfl) fun a41 H41 => q_ H41 2 rfl fun a42 H42 => ln_ <| nx <| rl_ <| wl_ <| p_ H42 rfl rfl fun a43 H43 => wl_ <| i_ H43 rfl (v := .int .i64 6) (dd_ari rfl rfl (H43.ev 26 rfl) rfl (by decide)) fun a44 H44 => wl_ <| p_ H44 rfl rfl fun a45 H45 => ?_
  clear H36 a36 H37 a37 H38 a38 H39 a39 H40 a40 H41 a41 H42 a42 H43 a43
  refine wl_ <| i_ H45 rfl (v := .int .u8 (bd (byteI (L.getD 1 0)))) (dd_conv (k := .u8) rfl (H45.ev 28 rfl) Tryd.underlying3 (by kernel_rfl) (wrap_u8_bd _)) fun a46 H46 => wl_ <| i_ H46 rfl (xA 9 1 6 rfl (H46.ev 3 rfl) (H46.ev 27 rfl)) fun a47 H47 => wl_ <| t_ rfl (S := [⟨g1, 45, #[.string (strB p), .slice (some ⟨bi, oi, none⟩) 4 ci]⟩, ⟨g2, 47, bs (zer 9)⟩, ⟨g3, 47, bs ((((spl (zer 9) 0 (padN p)).set 4 (4#8)).set 5 (byteI (L.getD 0 0))).set 6 (byteI (L.getD 1 0)))⟩, ⟨g4, 50, bs (padN p)⟩]) (fun _ h => dd_put HS35 2 6 rfl rfl (H47.ev 30 rfl) (H47.ev 29 rfl) (by kernel_rfl) rfl rfl (by rw [((size_bs _).trans (len_set (len_set (len_spl (length_zer 9) (length_padN _) (by decide)))))]; rfl) (set_bs _ _ (byteI (L.getD 1 0))) h) fun W48 HS48 => ln_ <| bn <| nx <| rl_ <| wl_ <| i_ H47 rfl (v := .int .i64 2) (dd_ari rfl (H47.ev 21 rfl) rfl rfl (by decide)) fun a49 H49 => wl_ <| p_ H49 rfl rfl fun a50 H50 => ln_ <| nx <| unr_go <| sq_ <| rl_ <| wl_ <| i_ H50 rfl (dd_cmp rfl (H50.ev 21 rfl) (H50.ev 20 rfl) (lt_t (by decide))) fun a51 H51 => ln_ <| nx <| sq_ <| ct_ H51 rfl <| wp_skip <| nx <| sq_ <| wp_block <| sq_ <| rl_ <| wl_ <| p_ H51 rfl rfl fun a52 H52 => wl_ <| i_ H52 rfl (xS 1 (oi + 2) rfl (H52.ev 19 rfl) (H52.ev 21 rfl)) fun a53 H53 => ?_
  clear H44 a44 H45 a45 H46 a46 HS35 H47 a47 H49 a49 H50 a50 H51 a51
  refine wl_ <| i_ H53 rfl (dd_at rfl (H53.ev 24 rfl) (ints_at (HI _ HS48.below) 2 (by decide)) Tryd.underlying3 rfl) fun a54 H54 => q_ H54 2 rfl fun a55 H55 => ln_ <| nx <| rl_ <| wl_ <| p_ H55 rfl rfl fun a56 H56 => wl_ <| i_ H56 rfl (v := .int .i64 7) (dd_ari rfl rfl (H56.ev 26 rfl) rfl (by decide)) fun a57 H57 => wl_ <| p_ H57 rfl rfl fun a58 H58 => wl_ <| i_ H58 rfl (v := .int .u8 (bd (byteI (L.getD 2 0)))) (dd_conv (k := .u8) rfl (H58.ev 28 rfl) Tryd.underlying3 (by kernel_rfl) (wrap_u8_bd _)) fun a59 H59 => wl_ <| i_ H59 rfl (xA 9 1 7 rfl (H59.ev 3 rfl) (H59.ev 27 rfl)) fun a60 H60 => wl_ <| t_ rfl (S := [⟨g1, 45, #[.string (strB p), .slice (some ⟨bi, oi, none⟩) 4 ci]⟩, ⟨g2, 47, bs (zer 9)⟩, ⟨g3, 47, bs (((((spl (zer 9) 0 (padN p)).set 4 (4#8)).set 5 (byteI (L.getD 0 0))).set 6 (byteI (L.getD 1 0))).set 7 (byteI (L.getD 2 0)))⟩, ⟨g4, 50, bs (padN p)⟩]) (fun _ h => dd_put HS48 2 7 rfl rfl (H60.ev 30 rfl) (H60.ev 29 rfl) (by kernel_rfl) rfl rfl (by rw [((size_bs _).trans (len_set (len_set (len_set (len_spl (length_zer 9) (length_padN _) (by decide))))))]; rfl) (set_bs _ _ (byteI (L.getD 2 0))) h) fun W61 HS61 => ?_
  clear H52 a52 H53 a53 H54 a54 H55 a55 H56 a56 H57 a57 H58 a58 H59 a59
  refine ln_ <| bn <| nx <| rl_ <| wl_ <| i_ H60 rfl (v := .int .i64 3) (dd_ari rfl (H60.ev 21 rfl) rfl rfl (by decide)) fun a62 H62 => wl_ <| p_ H62 rfl rfl fun a63 H63 => ln_ <| nx <| unr_go <| sq_ <| rl_ <| wl_ <| i_ H63 rfl (dd_cmp rfl (H63.ev 21 rfl) (H63.ev 20 rfl) (lt_t (by decide))) fun a64 H64 => ln_ <| nx <| sq_ <| ct_ H64 rfl <| wp_skip <| nx <| sq_ <| wp_block <| sq_ <| rl_ <| wl_ <| p_ H64 rfl rfl fun a65 H65 => wl_ <| i_ H65 rfl (xS 1 (oi + 3) rfl (H65.ev 19 rfl) (H65.ev 21 rfl)) fun a66 H66 => wl_ <| i_ H66 rfl (dd_at rfl (H66.ev 24 rfl) (ints_at (HI _ HS61.below) 3 (by decide)) Tryd.underlying3 rfl) fun a67 H67 => q_ H67 2 rfl fun a68 H68 => ln_ <| nx <| rl_ <| wl_ <| p_ H68 rfl rfl fun a69 H69 => ?_
  clear HS48 H60 a60 H62 a62 H63 a63 H64 a64 H65 a65 H66 a66 H67 a67
  refine wl_ <| i_ H69 rfl (v := .int .i64 8) (dd_ari rfl rfl (H69.ev 26 rfl) rfl (by decide)) fun a70 H70 => wl_ <| p_ H70 rfl rfl fun a71 H71 => wl_ <| i_ H71 rfl (v := .int .u8 (bd (byteI (L.getD 3 0)))) (dd_conv (k := .u8) rfl (H71.ev 28 rfl) Tryd.underlying3 (by kernel_rfl) (wrap_u8_bd _)) fun a72 H72 => wl_ <| i_ H72 rfl (xA 9 1 8 rfl (H72.ev 3 rfl) (H72.ev 27 rfl)) fun a73 H73 => wl_ <| t_ rfl (S := [⟨g1, 45, #[.string (strB p), .slice (some ⟨bi, oi, none⟩) 4 ci]⟩, ⟨g2, 47, bs (zer 9)⟩, ⟨g3, 47, bs ((((((spl (zer 9) 0 (padN p)).set 4 (4#8)).set 5 (byteI (L.getD 0 0))).set 6 (byteI (L.getD 1 0))).set 7 (byteI (L.getD 2 0))).set 8 (byteI (L.getD 3 0)))⟩, ⟨g4, 50, bs (padN p)⟩]) (fun _ h => dd_put HS61 2 8 rfl rfl (H73.ev 30 rfl) (H73.ev 29 rfl) (by kernel_rfl) rfl rfl (by rw [((size_bs _).trans (len_set (len_set (len_set (len_set (len_spl (length_zer 9) (length_padN _) (by decide)))))))]; rfl) (set_bs _ _ (byteI (L.getD 3 0))) h) fun W74 HS74 => ln_ <| bn <| nx <| rl_ <| wl_ <| i_ H73 rfl (v := .int .i64 4) (dd_ari rfl (H73.ev 21 rfl) rfl rfl (by decide)) fun a75 H75 => wl_ <| p_ H75 rfl rfl fun a76 H76 => ln_ <| nx <| unr_go <| sq_ <| rl_ <| wl_ <| i_ H76 rfl (dd_cmp rfl (H76.ev 21 rfl) (H76.ev 20 rfl) (lt_f (by decide))) fun a77 H77 => ?_
  clear H68 a68 H69 a69 H70 a70 H71 a71 H72 a72 HS61 H73 a73 H75 a75
  refine ln_ <| nx <| sq_ <| cf_ H77 rfl <| wp_exit <| tx <| tx <| bx <| nx <| sq_ <| rl_ <| wl_ <| i_ H77 rfl (v := .agg (bs ((((((spl (zer 9) 0 (padN p)).set 4 (4#8)).set 5 (byteI (L.getD 0 0))).set 6 (byteI (L.getD 1 0))).set 7 (byteI (L.getD 2 0))).set 8 (byteI (L.getD 3 0))))) (dd_load HS74 2 0 rfl rfl (H77.ev 3 rfl) (slab_whole _) Tryd.underlying47 rfl (by rw [show (bs ((((((spl (zer 9) 0 (padN p)).set 4 (4#8)).set 5 (byteI (L.getD 0 0))).set 6 (byteI (L.getD 1 0))).set 7 (byteI (L.getD 2 0))).set 8 (byteI (L.getD 3 0)))).size = 9 from ((size_bs _).trans (len_set (len_set (len_set (len_set (len_set (len_spl (length_zer 9) (length_padN _) (by decide))))))))]; kernel_rfl)) fun a78 H78 => wl_ <| t_ rfl (fun _ h => dd_setrow HS74 1 rfl rfl (H78.ev 2 rfl) (H78.ev 32 rfl) (by kernel_rfl) (((size_bs _).trans (len_set (len_set (len_set (len_set (len_set (len_spl (length_zer 9) (length_padN _) (by decide)))))))) : (bs ((((((spl (zer 9) 0 (padN p)).set 4 (4#8)).set 5 (byteI (L.getD 0 0))).set 6 (byteI (L.getD 1 0))).set 7 (byteI (L.getD 2 0))).set 8 (byteI (L.getD 3 0)))).size = 9) (((size_bs _).trans (length_zer 9)) : (bs (zer 9)).size = 9) (one_bs _) h) fun W79 HS79 => ln_ <| ?_
  clear H76 a76 H77 a77 HS74
  have H80 := H78.sel [2] rfl
  refine nx <| wp_ret <| ret_run H80.env0 (res_c Tryd.results19 (H80.get 2 rfl) (HS79.row 1 rfl) Tryd.underlying47 rfl (by rw [show (bs ((((((spl (zer 9) 0 (padN p)).set 4 (4#8)).set 5 (byteI (L.getD 0 0))).set 6 (byteI (L.getD 1 0))).set 7 (byteI (L.getD 2 0))).set 8 (byteI (L.getD 3 0)))).size = 9 from ((size_bs _).trans (len_set (len_set (len_set (len_set (len_set (len_spl (length_zer 9) (length_padN _) (by decide))))))))]; kernel_rfl)) <| ?_
  clear H78
  exact ⟨by rw [tb_eq4 p L hL], HS79.below⟩
theorem tobytes_any (A : Option Addr) (n c : Nat) (p : List (BitVec 8)) (L : List Int) (w : World) (hi : IntsAt w (.slice A n c) L) (hn : n ≤ 4) :
    Calls Tryd.prog 19 #[.agg #[.string (strB p), .slice A n c]] w fun e w' => e = .returned (.agg (bs (volE (p, L)))) ∧ Below w.heap.size w w' := by
  rcases (by omega : n = 0 ∨ n = 1 ∨ n = 2 ∨ n = 3 ∨ n = 4) with rfl | rfl | rfl | rfl | rfl
  · exact tobytes0 c A p L w hi
  · obtain ⟨b, o, rfl⟩ := ints_addr hi (by decide); exact tobytes1 b o c p L w hi
  · obtain ⟨b, o, rfl⟩ := ints_addr hi (by decide); exact tobytes2 b o c p L w hi
  · obtain ⟨b, o, rfl⟩ := ints_addr hi (by decide); exact tobytes3 b o c p L w hi
  · obtain ⟨b, o, rfl⟩ := ints_addr hi (by decide); exact tobytes4 b o c p L w hi
end Go.Proofs.YtpmedgibnnonkaaDoor

/- The volume of bytes: the program's. -/
set_option maxRecDepth 4000
namespace Go.Proofs.YtpmedgibnnonkaaDoor
open Go Go.RowKit
/- the volume of nine bytes -/
def fromL (q : List (BitVec 8)) : List Int := ((q.drop 5).take (min (q.getD 4 0#8).toNat 4)).map bd
def volQ (q : List (BitVec 8)) : Tv := ((cutN (q.take 4)).1, fromL q)
theorem fromL_len (q : List (BitVec 8)) : (fromL q).length ≤ 4 := by unfold fromL; rw [List.length_map, List.length_take]; omega
theorem fromL_bound (q : List (BitVec 8)) : ∀ x ∈ fromL q, -9223372036854775808 ≤ x ∧ x < 9223372036854775808 := fun x hx => by
  unfold fromL at hx
  obtain ⟨y, _, rfl⟩ := List.mem_map.1 hx
  have := bd_lo y; have := bd_hi y; omega
theorem volQ_name (q : List (BitVec 8)) (hq : q.length = 9) : (volQ q).1.length ≤ 4 := cut_len (by rw [List.length_take, hq]; rfl)
theorem list_9 {α : Type} {l : List α} (h : l.length = 9) : ∃ a b c d e f g i j, l = [a, b, c, d, e, f, g, i, j] := by
  match l, h with
  | [a, b, c, d, e, f, g, i, j], _ => exact ⟨a, b, c, d, e, f, g, i, j, rfl⟩
theorem st_fresh {w0 w : World} {S : List Blk} (h : St w0 noF S w) (k : Nat) {r : Blk} (hk : S[k]? = some r) : w0.heap.size ≤ r.g := (h.own k r hk).resolve_left fun e => e
set_option maxHeartbeats 800000 in
theorem frombytes0 (q : List (BitVec 8)) (w : World) (hq : q.length = 9) (h4 : q.getD 4 0#8 = 0#8) :
    Calls Tryd.prog 21 #[.agg (bs q)] w fun e w' => ∃ g, e = .returned (.agg #[.string (strB (volQ q).1), .slice (some ⟨g, 0, none⟩) (fromL q).length (fromL q).length]) ∧ w.heap.size ≤ g ∧ Row w' g 3 (intsV (fromL q)).toArray ∧ Below w.heap.size w w' := by
  have HS := St.nil w noF
  have hL : (fromL q).length = 0 ∧ (intsV (fromL q)).toArray = #[] := by
    have hm : min (q.getD 4 0#8).toNat 4 = 0 := by rw [h4]; rfl
    unfold fromL
    rw [hm]
    obtain ⟨a, b, c, d, e, f, g, i, j, rfl⟩ := list_9 hq
    exact ⟨rfl, rfl⟩
  refine enter_en Tryd.func21 rfl Tryd.ntmps21 (Nat.le_of_ble_eq_true rfl) fun a0 (HA0 : En 37 [(0, .agg (bs q))] a0) => ?_
  refine sq_ <| rl_ <| wl_ <| n_ HA0 rfl (fun _ h => dd_box HS rfl (HA0.ev 0 rfl) (cs := (bs q)) rfl h) fun g1 W1 HS1 a1 H1 => wl_ <| n_ H1 rfl (fun _ h => dd_new HS1 #[.string (⟨#[]⟩), .slice none 0 0] rfl (z := .agg #[.string (⟨#[]⟩), .slice none 0 0]) (by kernel_rfl) rfl h) fun g2 W2 HS2 a2 H2 => ln_ <| nx <| sq_ <| rl_ <| wl_ <| i_ H2 rfl (v := .slice (some ⟨g1, 0, none⟩) 9 9) (dd_slAl (l := 0) (n := 9) (sz := 1) (j := 0) rfl (H2.ev 1 rfl) rfl (by kernel_rfl) (by decide) (by rfl) rfl) fun a3 H3 => wl_ <| i_ H3 rfl (v := .pointer (some ⟨g1, 0, none⟩)) (dd_s2a (m := 4) (sz := 1) rfl (H3.ev 8 rfl) (by kernel_rfl) (by decide)) fun a4 H4 => wl_ <| i_ H4 rfl (v := .agg (bs (q.take 4))) (dd_load HS2 0 0 rfl rfl (H4.ev 9 rfl) (bs_slab0 hq 4 (by decide)) Tryd.underlying50 rfl (by rw [show (bs (q.take 4)).size = 4 from ((size_bs _).trans (len_take hq (by decide)))]; kernel_rfl)) fun a5 H5 => wl_ <| c_ H5 rfl HS2 (dcs Tryd.func28 rfl (args1 (H5.ev 10 rfl)) (cut_any (q.take 4) W2 (len_take hq (by decide))) (.tuple #[.string (strB (cutN (q.take 4)).1), .bool (cutN (q.take 4)).2])) fun W6 HS6 a6 H6 => wl_ <| p_ H6 rfl rfl fun a7 H7 => wl_ <| i_ H7 rfl (dd_ext rfl (H7.ev 7 rfl) rfl) fun a8 H8 => ?_
  clear HS HA0 a0 HS1 H1 a1 H2 a2 H3 a3 H4 a4 H5 a5 HS2 H6 a6
  refine wl_ <| i_ H8 rfl (dd_ext rfl (H8.ev 7 rfl) rfl) fun a9 H9 => q_ H9 2 rfl fun a10 H10 => ln_ <| nx <| sq_ <| rl_ <| wl_ <| p_ H10 rfl rfl fun a11 H11 => wl_ <| i_ H11 rfl (xA 9 1 4 rfl (H11.ev 1 rfl) rfl) fun a12 H12 => wl_ <| i_ H12 rfl (v := .int .u8 0) (dd_get HS6 0 4 rfl rfl (H12.ev 15 rfl) ((bs_get hq 4 (by decide)).trans (by rw [h4]; rfl)) Tryd.underlying5 rfl) fun a13 H13 => wl_ <| i_ H13 rfl (v := .int .u8 0) (dd_minF rfl (H13.ev 16 rfl) rfl (by decide)) fun a14 H14 => wl_ <| n_ H14 rfl (A := fun g18 => .slice (some ⟨g18, 0, none⟩) 0 0) (fun _ h => dd_mk HS6 rfl (H14.ev 17 rfl) (H14.ev 17 rfl) (z := .int .i64 0) (sz := 1) (bytes := 8) (cs := #[]) Tryd.underlying43 (by kernel_rfl) (by decide) (by decide) (by decide) (by kernel_rfl) h) fun g18 W15 HS15 a15 H15 => wl_ <| i_ H15 rfl (v := .agg #[.string (strB (cutN (q.take 4)).1), .slice (some ⟨g18, 0, none⟩) 0 0]) (dd_bld rfl (ps := [(0, .string (strB (cutN (q.take 4)).1)), (1, .slice (some ⟨g18, 0, none⟩) 0 0)]) (pr1 (H15.ev 14 rfl) (pr1 (H15.ev 18 rfl) (pr0))) (Lz := [[.string (⟨#[]⟩)], [.slice none 0 0]]) (by kernel_rfl) (lens_cons rfl (lens_cons rfl (lens_nil))) (fit_cons (i := 0) rfl rfl (fit_cons (i := 1) rfl rfl (fit_nil))) (cs := #[.string (strB (cutN (q.take 4)).1), .slice (some ⟨g18, 0, none⟩) 0 0]) rfl) fun a16 H16 => ?_
  clear H7 a7 H8 a8 H9 a9 H10 a10 H11 a11 H12 a12 H13 a13 HS6 H14 a14
  refine wl_ <| n_ H16 rfl (fun _ h => dd_new HS15 #[.string (⟨#[]⟩), .slice none 0 0] rfl (z := .agg #[.string (⟨#[]⟩), .slice none 0 0]) (by kernel_rfl) rfl h) fun g5 W17 HS17 a17 H17 => wl_ <| t_ rfl (fun _ h => dd_setrow HS17 3 rfl rfl (H17.ev 5 rfl) (H17.ev 19 rfl) (by kernel_rfl) (rfl : #[.string (strB (cutN (q.take 4)).1), .slice (some ⟨g18, 0, none⟩) 0 0].size = 2) (rfl : #[.string (⟨#[]⟩), .slice none 0 0].size = 2) (one_l (ao_cons rfl (ao_cons rfl ao_nil))) h) fun W18 HS18 => ln_ <| ?_
  clear H15 a15 HS15 H16 a16 HS17
  have H19 := H17.sel [1, 2, 5] rfl
  refine nx <| sq_ <| sq_ <| rl_ <| wl_ <| i_ H19 rfl (xf 1 1 rfl (H19.ev 5 rfl)) fun a20 H20 => wl_ <| i_ H20 rfl (dd_get HS18 3 1 rfl rfl (H20.ev 20 rfl) rfl Tryd.underlying43 rfl) fun a21 H21 => wl_ <| i_ H21 rfl (v := .int .i64 0) (dd_len rfl (H21.ev 21 rfl) Tryd.underlying43) fun a22 H22 => wl_ <| p_ H22 rfl rfl fun a23 H23 => ln_ <| nx <| wp_block <| wp_unr 1 <| unr_go <| sq_ <| rl_ <| wl_ <| i_ H23 rfl (dd_cmp rfl (H23.ev 23 rfl) (H23.ev 22 rfl) (lt_f (by decide))) fun a24 H24 => ln_ <| nx <| sq_ <| cf_ H24 rfl <| wp_exit <| tx <| tx <| bx <| nx <| sq_ <| rl_ <| wl_ <| i_ H24 rfl (v := .agg #[.string (strB (cutN (q.take 4)).1), .slice (some ⟨g18, 0, none⟩) 0 0]) (dd_load HS18 3 0 rfl rfl (H24.ev 5 rfl) (slab_whole _) Tryd.underlying45 rfl (by kernel_rfl)) fun a25 H25 => wl_ <| t_ rfl (fun _ h => dd_setrow HS18 1 rfl rfl (H25.ev 2 rfl) (H25.ev 36 rfl) (by kernel_rfl) (rfl : #[.string (strB (cutN (q.take 4)).1), .slice (some ⟨g18, 0, none⟩) 0 0].size = 2) (rfl : #[.string (⟨#[]⟩), .slice none 0 0].size = 2) (one_l (ao_cons rfl (ao_cons rfl ao_nil))) h) fun W26 HS26 => ln_ <| nx <| wp_ret <| ret_run H25.env0 (res_c Tryd.results21 (H25.get 2 rfl) (HS26.row 1 rfl) Tryd.underlying45 rfl (by kernel_rfl)) <| ?_
  clear H17 H19 a17 H20 a20 H21 a21 H22 a22 H23 a23 H24 a24 HS18
  refine ⟨g18, ?_, st_fresh HS26 2 rfl, ?_, HS26.below⟩
  · rw [hL.1]; rfl
  · rw [hL.2]; exact HS26.row 2 rfl
set_option maxHeartbeats 800000 in
theorem frombytes1 (q : List (BitVec 8)) (w : World) (hq : q.length = 9) (h4 : q.getD 4 0#8 = 1#8) :
    Calls Tryd.prog 21 #[.agg (bs q)] w fun e w' => ∃ g, e = .returned (.agg #[.string (strB (volQ q).1), .slice (some ⟨g, 0, none⟩) (fromL q).length (fromL q).length]) ∧ w.heap.size ≤ g ∧ Row w' g 3 (intsV (fromL q)).toArray ∧ Below w.heap.size w w' := by
  have HS := St.nil w noF
  have hL : (fromL q).length = 1 ∧ (intsV (fromL q)).toArray = #[.int .i64 (bd (q.getD 5 0#8))] := by
    have hm : min (q.getD 4 0#8).toNat 4 = 1 := by rw [h4]; rfl
    unfold fromL
    rw [hm]
    obtain ⟨a, b, c, d, e, f, g, i, j, rfl⟩ := list_9 hq
    exact ⟨rfl, rfl⟩
  refine enter_en Tryd.func21 rfl Tryd.ntmps21 (Nat.le_of_ble_eq_true rfl) fun a0 (HA0 : En 37 [(0, .agg (bs q))] a0) => ?_
  refine sq_ <| rl_ <| wl_ <| n_ HA0 rfl (fun _ h => dd_box HS rfl (HA0.ev 0 rfl) (cs := (bs q)) rfl h) fun g1 W1 HS1 a1 H1 => wl_ <| n_ H1 rfl (fun _ h => dd_new HS1 #[.string (⟨#[]⟩), .slice none 0 0] rfl (z := .agg #[.string (⟨#[]⟩), .slice none 0 0]) (by kernel_rfl) rfl h) fun g2 W2 HS2 a2 H2 => ln_ <| nx <| sq_ <| rl_ <| wl_ <| i_ H2 rfl (v := .slice (some ⟨g1, 0, none⟩) 9 9) (dd_slAl (l := 0) (n := 9) (sz := 1) (j := 0) rfl (H2.ev 1 rfl) rfl (by kernel_rfl) (by decide) (by rfl) rfl) fun a3 H3 => wl_ <| i_ H3 rfl (v := .pointer (some ⟨g1, 0, none⟩)) (dd_s2a (m := 4) (sz := 1) rfl (H3.ev 8 rfl) (by kernel_rfl) (by decide)) fun a4 H4 => wl_ <| i_ H4 rfl (v := .agg (bs (q.take 4))) (dd_load HS2 0 0 rfl rfl (H4.ev 9 rfl) (bs_slab0 hq 4 (by decide)) Tryd.underlying50 rfl (by rw [show (bs (q.take 4)).size = 4 from ((size_bs _).trans (len_take hq (by decide)))]; kernel_rfl)) fun a5 H5 => wl_ <| c_ H5 rfl HS2 (dcs Tryd.func28 rfl (args1 (H5.ev 10 rfl)) (cut_any (q.take 4) W2 (len_take hq (by decide))) (.tuple #[.string (strB (cutN (q.take 4)).1), .bool (cutN (q.take 4)).2])) fun W6 HS6 a6 H6 => wl_ <| p_ H6 rfl rfl fun a7 H7 => wl_ <| i_ H7 rfl (dd_ext rfl (H7.ev 7 rfl) rfl) fun a8 H8 => ?_
  clear HS HA0 a0 HS1 H1 a1 H2 a2 H3 a3 H4 a4 H5 a5 HS2 H6 a6
  refine wl_ <| i_ H8 rfl (dd_ext rfl (H8.ev 7 rfl) rfl) fun a9 H9 => q_ H9 2 rfl fun a10 H10 => ln_ <| nx <| sq_ <| rl_ <| wl_ <| p_ H10 rfl rfl fun a11 H11 => wl_ <| i_ H11 rfl (xA 9 1 4 rfl (H11.ev 1 rfl) rfl) fun a12 H12 => wl_ <| i_ H12 rfl (v := .int .u8 1) (dd_get HS6 0 4 rfl rfl (H12.ev 15 rfl) ((bs_get hq 4 (by decide)).trans (by rw [h4]; rfl)) Tryd.underlying5 rfl) fun a13 H13 => wl_ <| i_ H13 rfl (v := .int .u8 1) (dd_minF rfl (H13.ev 16 rfl) rfl (by decide)) fun a14 H14 => wl_ <| n_ H14 rfl (A := fun g18 => .slice (some ⟨g18, 0, none⟩) 1 1) (fun _ h => dd_mk HS6 rfl (H14.ev 17 rfl) (H14.ev 17 rfl) (z := .int .i64 0) (sz := 1) (bytes := 8) (cs := #[.int .i64 0]) Tryd.underlying43 (by kernel_rfl) (by decide) (by decide) (by decide) (by kernel_rfl) h) fun g18 W15 HS15 a15 H15 => wl_ <| i_ H15 rfl (v := .agg #[.string (strB (cutN (q.take 4)).1), .slice (some ⟨g18, 0, none⟩) 1 1]) (dd_bld rfl (ps := [(0, .string (strB (cutN (q.take 4)).1)), (1, .slice (some ⟨g18, 0, none⟩) 1 1)]) (pr1 (H15.ev 14 rfl) (pr1 (H15.ev 18 rfl) (pr0))) (Lz := [[.string (⟨#[]⟩)], [.slice none 0 0]]) (by kernel_rfl) (lens_cons rfl (lens_cons rfl (lens_nil))) (fit_cons (i := 0) rfl rfl (fit_cons (i := 1) rfl rfl (fit_nil))) (cs := #[.string (strB (cutN (q.take 4)).1), .slice (some ⟨g18, 0, none⟩) 1 1]) rfl) fun a16 H16 => ?_
  clear H7 a7 H8 a8 H9 a9 H10 a10 H11 a11 H12 a12 H13 a13 HS6 H14 a14
  refine wl_ <| n_ H16 rfl (fun _ h => dd_new HS15 #[.string (⟨#[]⟩), .slice none 0 0] rfl (z := .agg #[.string (⟨#[]⟩), .slice none 0 0]) (by kernel_rfl) rfl h) fun g5 W17 HS17 a17 H17 => wl_ <| t_ rfl (fun _ h => dd_setrow HS17 3 rfl rfl (H17.ev 5 rfl) (H17.ev 19 rfl) (by kernel_rfl) (rfl : #[.string (strB (cutN (q.take 4)).1), .slice (some ⟨g18, 0, none⟩) 1 1].size = 2) (rfl : #[.string (⟨#[]⟩), .slice none 0 0].size = 2) (one_l (ao_cons rfl (ao_cons rfl ao_nil))) h) fun W18 HS18 => ln_ <| ?_
  clear H15 a15 HS15 H16 a16 HS17
  have H19 := H17.sel [1, 2, 5] rfl
  refine nx <| sq_ <| sq_ <| rl_ <| wl_ <| i_ H19 rfl (xf 1 1 rfl (H19.ev 5 rfl)) fun a20 H20 => wl_ <| i_ H20 rfl (dd_get HS18 3 1 rfl rfl (H20.ev 20 rfl) rfl Tryd.underlying43 rfl) fun a21 H21 => wl_ <| i_ H21 rfl (v := .int .i64 1) (dd_len rfl (H21.ev 21 rfl) Tryd.underlying43) fun a22 H22 => wl_ <| p_ H22 rfl rfl fun a23 H23 => ln_ <| nx <| wp_block <| wp_unr 2 <| unr_go <| sq_ <| rl_ <| wl_ <| i_ H23 rfl (dd_cmp rfl (H23.ev 23 rfl) (H23.ev 22 rfl) (lt_t (by decide))) fun a24 H24 => ln_ <| nx <| sq_ <| ct_ H24 rfl <| wp_skip <| nx <| sq_ <| wp_block <| sq_ <| rl_ <| q_ H24 2 rfl fun a25 H25 => ln_ <| nx <| ?_
  clear H17 H19 a17 H20 a20 H21 a21 H22 a22 H23 a23 H24 a24
  refine wi_ HS18 [0, 1, 3] rfl [0, 1, 3, 2] rfl fun HSh26 hx26 => ht_ H25 0 hx26 rfl rfl (fun _ _ _ => xf 1 1 rfl (H25.ev 5 rfl)) fun a27 H27 => ht_ H27 1 hx26 rfl rfl (fun _ _ HS9 => dd_get HS9 2 1 rfl rfl (H27.ev 26 rfl) rfl Tryd.underlying43 rfl) fun a28 H28 => hp_ H28 2 hx26 rfl rfl rfl fun a29 H29 => hp_ H29 3 hx26 rfl rfl rfl fun a30 H30 => ht_ H30 4 hx26 rfl rfl (v := .int .i64 5) (fun _ _ _ => dd_ari rfl rfl (H30.ev 29 rfl) rfl (by decide)) fun a31 H31 => ht_ H31 5 hx26 rfl rfl (fun _ _ _ => xA 9 1 5 rfl (H31.ev 1 rfl) (H31.ev 30 rfl)) fun a32 H32 => ht_ H32 6 hx26 rfl rfl (fun _ _ HS9 => dd_get HS9 0 5 rfl rfl (H32.ev 31 rfl) (bs_get hq 5 (by decide)) Tryd.underlying5 rfl) fun a33 H33 => ?_
  clear HS18 H25 a25 H27 a27 H28 a28 H29 a29 H30 a30 H31 a31
  refine ht_ H33 7 hx26 rfl rfl (v := .int .i64 (bd (q.getD 5 0#8))) (fun _ _ _ => dd_conv (k := .i64) rfl (H33.ev 32 rfl) Tryd.underlying5 (by kernel_rfl) (i64_bdA _)) fun a34 H34 => ht_ H34 8 hx26 rfl rfl (fun _ _ _ => xS 1 0 rfl (H34.ev 27 rfl) (H34.ev 28 rfl)) fun a35 H35 => h1_ 9 rfl <| t_ rfl (fun _ h => dd_put (cs := #[.int .i64 (bd (q.getD 5 0#8))]) HSh26 2 0 rfl rfl (H35.ev 34 rfl) (H35.ev 33 rfl) (by kernel_rfl) rfl rfl rfl rfl h) fun W36 HS36 => sx_ (sxi HS36 [0, 1, 3, 2] rfl) fun hx37 => ?_
  clear H32 a32 H33 a33 H34 a34 HSh26 hx26
  refine wpAnyH_done (by kernel_rfl) ?_ _
  clear hx37
  refine bn <| nx <| rl_ <| wl_ <| i_ H35 rfl (v := .int .i64 1) (dd_ari rfl (H35.ev 23 rfl) rfl rfl (by decide)) fun a38 H38 => wl_ <| p_ H38 rfl rfl fun a39 H39 => ln_ <| nx <| unr_go <| sq_ <| rl_ <| wl_ <| i_ H39 rfl (dd_cmp rfl (H39.ev 23 rfl) (H39.ev 22 rfl) (lt_f (by decide))) fun a40 H40 => ln_ <| nx <| sq_ <| cf_ H40 rfl <| wp_exit <| tx <| tx <| bx <| nx <| sq_ <| rl_ <| wl_ <| i_ H40 rfl (v := .agg #[.string (strB (cutN (q.take 4)).1), .slice (some ⟨g18, 0, none⟩) 1 1]) (dd_load HS36 3 0 rfl rfl (H40.ev 5 rfl) (slab_whole _) Tryd.underlying45 rfl (by kernel_rfl)) fun a41 H41 => wl_ <| t_ rfl (fun _ h => dd_setrow HS36 1 rfl rfl (H41.ev 2 rfl) (H41.ev 36 rfl) (by kernel_rfl) (rfl : #[.string (strB (cutN (q.take 4)).1), .slice (some ⟨g18, 0, none⟩) 1 1].size = 2) (rfl : #[.string (⟨#[]⟩), .slice none 0 0].size = 2) (one_l (ao_cons rfl (ao_cons rfl ao_nil))) h) fun W42 HS42 => ln_ <| ?_
  clear H35 a35 H38 a38 H39 a39 H40 a40 HS36
  have H43 := H41.sel [2] rfl
  refine nx <| wp_ret <| ret_run H43.env0 (res_c Tryd.results21 (H43.get 2 rfl) (HS42.row 1 rfl) Tryd.underlying45 rfl (by kernel_rfl)) <| ?_
  clear H41
  refine ⟨g18, ?_, st_fresh HS42 2 rfl, ?_, HS42.below⟩
  · rw [hL.1]; rfl
  · rw [hL.2]; exact HS42.row 2 rfl
set_option maxHeartbeats 800000 in
theorem frombytes2 (q : List (BitVec 8)) (w : World) (hq : q.length = 9) (h4 : q.getD 4 0#8 = 2#8) :
    Calls Tryd.prog 21 #[.agg (bs q)] w fun e w' => ∃ g, e = .returned (.agg #[.string (strB (volQ q).1), .slice (some ⟨g, 0, none⟩) (fromL q).length (fromL q).length]) ∧ w.heap.size ≤ g ∧ Row w' g 3 (intsV (fromL q)).toArray ∧ Below w.heap.size w w' := by
  have HS := St.nil w noF
  have hL : (fromL q).length = 2 ∧ (intsV (fromL q)).toArray = #[.int .i64 (bd (q.getD 5 0#8)), .int .i64 (bd (q.getD 6 0#8))] := by
    have hm : min (q.getD 4 0#8).toNat 4 = 2 := by rw [h4]; rfl
    unfold fromL
    rw [hm]
    obtain ⟨a, b, c, d, e, f, g, i, j, rfl⟩ := list_9 hq
    exact ⟨rfl, rfl⟩
  refine enter_en Tryd.func21 rfl Tryd.ntmps21 (Nat.le_of_ble_eq_true rfl) fun a0 (HA0 : En 37 [(0, .agg (bs q))] a0) => ?_
  refine sq_ <| rl_ <| wl_ <| n_ HA0 rfl (fun _ h => dd_box HS rfl (HA0.ev 0 rfl) (cs := (bs q)) rfl h) fun g1 W1 HS1 a1 H1 => wl_ <| n_ H1 rfl (fun _ h => dd_new HS1 #[.string (⟨#[]⟩), .slice none 0 0] rfl (z := .agg #[.string (⟨#[]⟩), .slice none 0 0]) (by kernel_rfl) rfl h) fun g2 W2 HS2 a2 H2 => ln_ <| nx <| sq_ <| rl_ <| wl_ <| i_ H2 rfl (v := .slice (some ⟨g1, 0, none⟩) 9 9) (dd_slAl (l := 0) (n := 9) (sz := 1) (j := 0) rfl (H2.ev 1 rfl) rfl (by kernel_rfl) (by decide) (by rfl) rfl) fun a3 H3 => wl_ <| i_ H3 rfl (v := .pointer (some ⟨g1, 0, none⟩)) (dd_s2a (m := 4) (sz := 1) rfl (H3.ev 8 rfl) (by kernel_rfl) (by decide)) fun a4 H4 => wl_ <| i_ H4 rfl (v := .agg (bs (q.take 4))) (dd_load HS2 0 0 rfl rfl (H4.ev 9 rfl) (bs_slab0 hq 4 (by decide)) Tryd.underlying50 rfl (by rw [show (bs (q.take 4)).size = 4 from ((size_bs _).trans (len_take hq (by decide)))]; kernel_rfl)) fun a5 H5 => wl_ <| c_ H5 rfl HS2 (dcs Tryd.func28 rfl (args1 (H5.ev 10 rfl)) (cut_any (q.take 4) W2 (len_take hq (by decide))) (.tuple #[.string (strB (cutN (q.take 4)).1), .bool (cutN (q.take 4)).2])) fun W6 HS6 a6 H6 => wl_ <| p_ H6 rfl rfl fun a7 H7 => wl_ <| i_ H7 rfl (dd_ext rfl (H7.ev 7 rfl) rfl) fun a8 H8 => ?_
  clear HS HA0 a0 HS1 H1 a1 H2 a2 H3 a3 H4 a4 H5 a5 HS2 H6 a6
  refine wl_ <| i_ H8 rfl (dd_ext rfl (H8.ev 7 rfl) rfl) fun a9 H9 => q_ H9 2 rfl fun a10 H10 => ln_ <| nx <| sq_ <| rl_ <| wl_ <| p_ H10 rfl rfl fun a11 H11 => wl_ <| i_ H11 rfl (xA 9 1 4 rfl (H11.ev 1 rfl) rfl) fun a12 H12 => wl_ <| i_ H12 rfl (v := .int .u8 2) (dd_get HS6 0 4 rfl rfl (H12.ev 15 rfl) ((bs_get hq 4 (by decide)).trans (by rw [h4]; rfl)) Tryd.underlying5 rfl) fun a13 H13 => wl_ <| i_ H13 rfl (v := .int .u8 2) (dd_minF rfl (H13.ev 16 rfl) rfl (by decide)) fun a14 H14 => wl_ <| n_ H14 rfl (A := fun g18 => .slice (some ⟨g18, 0, none⟩) 2 2) (fun _ h => dd_mk HS6 rfl (H14.ev 17 rfl) (H14.ev 17 rfl) (z := .int .i64 0) (sz := 1) (bytes := 8) (cs := #[.int .i64 0, .int .i64 0]) Tryd.underlying43 (by kernel_rfl) (by decide) (by decide) (by decide) (by kernel_rfl) h) fun g18 W15 HS15 a15 H15 => wl_ <| i_ H15 rfl (v := .agg #[.string (strB (cutN (q.take 4)).1), .slice (some ⟨g18, 0, none⟩) 2 2]) (dd_bld rfl (ps := [(0, .string (strB (cutN (q.take 4)).1)), (1, .slice (some ⟨g18, 0, none⟩) 2 2)]) (pr1 (H15.ev 14 rfl) (pr1 (H15.ev 18 rfl) (pr0))) (Lz := [[.string (⟨#[]⟩)], [.slice none 0 0]]) (by kernel_rfl) (lens_cons rfl (lens_cons rfl (lens_nil))) (fit_cons (i := 0) rfl rfl (fit_cons (i := 1) rfl rfl (fit_nil))) (cs := #[.string (strB (cutN (q.take 4)).1), .slice (some ⟨g18, 0, none⟩) 2 2]) rfl) fun a16 H16 => ?_
  clear H7 a7 H8 a8 H9 a9 H10 a10 H11 a11 H12 a12 H13 a13 HS6 H14 a14
  refine wl_ <| n_ H16 rfl (fun _ h => dd_new HS15 #[.string (⟨#[]⟩), .slice none 0 0] rfl (z := .agg #[.string (⟨#[]⟩), .slice none 0 0]) (by kernel_rfl) rfl h) fun g5 W17 HS17 a17 H17 => wl_ <| t_ rfl (fun _ h => dd_setrow HS17 3 rfl rfl (H17.ev 5 rfl) (H17.ev 19 rfl) (by kernel_rfl) (rfl : #[.string (strB (cutN (q.take 4)).1), .slice (some ⟨g18, 0, none⟩) 2 2].size = 2) (rfl : #[.string (⟨#[]⟩), .slice none 0 0].size = 2) (one_l (ao_cons rfl (ao_cons rfl ao_nil))) h) fun W18 HS18 => ln_ <| ?_
  clear H15 a15 HS15 H16 a16 HS17
  have H19 := H17.sel [1, 2, 5] rfl
  refine nx <| sq_ <| sq_ <| rl_ <| wl_ <| i_ H19 rfl (xf 1 1 rfl (H19.ev 5 rfl)) fun a20 H20 => wl_ <| i_ H20 rfl (dd_get HS18 3 1 rfl rfl (H20.ev 20 rfl) rfl Tryd.underlying43 rfl) fun a21 H21 => wl_ <| i_ H21 rfl (v := .int .i64 2) (dd_len rfl (H21.ev 21 rfl) Tryd.underlying43) fun a22 H22 => wl_ <| p_ H22 rfl rfl fun a23 H23 => ln_ <| nx <| wp_block <| wp_unr 3 <| unr_go <| sq_ <| rl_ <| wl_ <| i_ H23 rfl (dd_cmp rfl (H23.ev 23 rfl) (H23.ev 22 rfl) (lt_t (by decide))) fun a24 H24 => ln_ <| nx <| sq_ <| ct_ H24 rfl <| wp_skip <| nx <| sq_ <| wp_block <| sq_ <| rl_ <| q_ H24 2 rfl fun a25 H25 => ln_ <| nx <| ?_
  clear H17 H19 a17 H20 a20 H21 a21 H22 a22 H23 a23 H24 a24
  refine wi_ HS18 [0, 1, 3] rfl [0, 1, 3, 2] rfl fun HSh26 hx26 => ht_ H25 0 hx26 rfl rfl (fun _ _ _ => xf 1 1 rfl (H25.ev 5 rfl)) fun a27 H27 => ht_ H27 1 hx26 rfl rfl (fun _ _ HS9 => dd_get HS9 2 1 rfl rfl (H27.ev 26 rfl) rfl Tryd.underlying43 rfl) fun a28 H28 => hp_ H28 2 hx26 rfl rfl rfl fun a29 H29 => hp_ H29 3 hx26 rfl rfl rfl fun a30 H30 => ht_ H30 4 hx26 rfl rfl (v := .int .i64 5) (fun _ _ _ => dd_ari rfl rfl (H30.ev 29 rfl) rfl (by decide)) fun a31 H31 => ht_ H31 5 hx26 rfl rfl (fun _ _ _ => xA 9 1 5 rfl (H31.ev 1 rfl) (H31.ev 30 rfl)) fun a32 H32 => ht_ H32 6 hx26 rfl rfl (fun _ _ HS9 => dd_get HS9 0 5 rfl rfl (H32.ev 31 rfl) (bs_get hq 5 (by decide)) Tryd.underlying5 rfl) fun a33 H33 => ?_
  clear HS18 H25 a25 H27 a27 H28 a28 H29 a29 H30 a30 H31 a31
  refine ht_ H33 7 hx26 rfl rfl (v := .int .i64 (bd (q.getD 5 0#8))) (fun _ _ _ => dd_conv (k := .i64) rfl (H33.ev 32 rfl) Tryd.underlying5 (by kernel_rfl) (i64_bdA _)) fun a34 H34 => ht_ H34 8 hx26 rfl rfl (fun _ _ _ => xS 1 0 rfl (H34.ev 27 rfl) (H34.ev 28 rfl)) fun a35 H35 => h1_ 9 rfl <| t_ rfl (fun _ h => dd_put (cs := #[.int .i64 (bd (q.getD 5 0#8)), .int .i64 0]) HSh26 2 0 rfl rfl (H35.ev 34 rfl) (H35.ev 33 rfl) (by kernel_rfl) rfl rfl rfl rfl h) fun W36 HS36 => sx_ (sxi HS36 [0, 1, 3, 2] rfl) fun hx37 => ?_
  clear H32 a32 H33 a33 H34 a34 HSh26 hx26
  refine wpAnyH_done (by kernel_rfl) ?_ _
  clear hx37
  refine bn <| nx <| rl_ <| wl_ <| i_ H35 rfl (v := .int .i64 1) (dd_ari rfl (H35.ev 23 rfl) rfl rfl (by decide)) fun a38 H38 => wl_ <| p_ H38 rfl rfl fun a39 H39 => ln_ <| nx <| unr_go <| sq_ <| rl_ <| wl_ <| i_ H39 rfl (dd_cmp rfl (H39.ev 23 rfl) (H39.ev 22 rfl) (lt_t (by decide))) fun a40 H40 => ln_ <| nx <| sq_ <| ct_ H40 rfl <| wp_skip <| nx <| sq_ <| wp_block <| sq_ <| rl_ <| q_ H40 2 rfl fun a41 H41 => ln_ <| nx <| ?_
  clear H35 a35 H38 a38 H39 a39 H40 a40
  refine wi_ HS36 [0, 1, 3] rfl [0, 1, 3, 2] rfl fun HSh42 hx42 => ht_ H41 0 hx42 rfl rfl (fun _ _ _ => xf 1 1 rfl (H41.ev 5 rfl)) fun a43 H43 => ht_ H43 1 hx42 rfl rfl (fun _ _ HS9 => dd_get HS9 2 1 rfl rfl (H43.ev 26 rfl) rfl Tryd.underlying43 rfl) fun a44 H44 => hp_ H44 2 hx42 rfl rfl rfl fun a45 H45 => hp_ H45 3 hx42 rfl rfl rfl fun a46 H46 => ht_ H46 4 hx42 rfl rfl (v := .int .i64 6) (fun _ _ _ => dd_ari rfl rfl (H46.ev 29 rfl) rfl (by decide)) fun a47 H47 => ht_ H47 5 hx42 rfl rfl (fun _ _ _ => xA 9 1 6 rfl (H47.ev 1 rfl) (H47.ev 30 rfl)) fun a48 H48 => ht_ H48 6 hx42 rfl rfl (fun _ _ HS9 => dd_get HS9 0 6 rfl rfl (H48.ev 31 rfl) (bs_get hq 6 (by decide)) Tryd.underlying5 rfl) fun a49 H49 => ?_
  clear HS36 H41 a41 H43 a43 H44 a44 H45 a45 H46 a46 H47 a47
  refine ht_ H49 7 hx42 rfl rfl (v := .int .i64 (bd (q.getD 6 0#8))) (fun _ _ _ => dd_conv (k := .i64) rfl (H49.ev 32 rfl) Tryd.underlying5 (by kernel_rfl) (i64_bdA _)) fun a50 H50 => ht_ H50 8 hx42 rfl rfl (fun _ _ _ => xS 1 1 rfl (H50.ev 27 rfl) (H50.ev 28 rfl)) fun a51 H51 => h1_ 9 rfl <| t_ rfl (fun _ h => dd_put (cs := #[.int .i64 (bd (q.getD 5 0#8)), .int .i64 (bd (q.getD 6 0#8))]) HSh42 2 1 rfl rfl (H51.ev 34 rfl) (H51.ev 33 rfl) (by kernel_rfl) rfl rfl rfl rfl h) fun W52 HS52 => sx_ (sxi HS52 [0, 1, 3, 2] rfl) fun hx53 => ?_
  clear H48 a48 H49 a49 H50 a50 HSh42 hx42
  refine wpAnyH_done (by kernel_rfl) ?_ _
  clear hx53
  refine bn <| nx <| rl_ <| wl_ <| i_ H51 rfl (v := .int .i64 2) (dd_ari rfl (H51.ev 23 rfl) rfl rfl (by decide)) fun a54 H54 => wl_ <| p_ H54 rfl rfl fun a55 H55 => ln_ <| nx <| unr_go <| sq_ <| rl_ <| wl_ <| i_ H55 rfl (dd_cmp rfl (H55.ev 23 rfl) (H55.ev 22 rfl) (lt_f (by decide))) fun a56 H56 => ln_ <| nx <| sq_ <| cf_ H56 rfl <| wp_exit <| tx <| tx <| bx <| nx <| sq_ <| rl_ <| wl_ <| i_ H56 rfl (v := .agg #[.string (strB (cutN (q.take 4)).1), .slice (some ⟨g18, 0, none⟩) 2 2]) (dd_load HS52 3 0 rfl rfl (H56.ev 5 rfl) (slab_whole _) Tryd.underlying45 rfl (by kernel_rfl)) fun a57 H57 => wl_ <| t_ rfl (fun _ h => dd_setrow HS52 1 rfl rfl (H57.ev 2 rfl) (H57.ev 36 rfl) (by kernel_rfl) (rfl : #[.string (strB (cutN (q.take 4)).1), .slice (some ⟨g18, 0, none⟩) 2 2].size = 2) (rfl : #[.string (⟨#[]⟩), .slice none 0 0].size = 2) (one_l (ao_cons rfl (ao_cons rfl ao_nil))) h) fun W58 HS58 => ln_ <| ?_
  clear H51 a51 H54 a54 H55 a55 H56 a56 HS52
  have H59 := H57.sel [2] rfl
  refine nx <| wp_ret <| ret_run H59.env0 (res_c Tryd.results21 (H59.get 2 rfl) (HS58.row 1 rfl) Tryd.underlying45 rfl (by kernel_rfl)) <| ?_
  clear H57
  refine ⟨g18, ?_, st_fresh HS58 2 rfl, ?_, HS58.below⟩
  · rw [hL.1]; rfl
  · rw [hL.2]; exact HS58.row 2 rfl
set_option maxHeartbeats 800000 in
theorem frombytes3 (q : List (BitVec 8)) (w : World) (hq : q.length = 9) (h4 : q.getD 4 0#8 = 3#8) :
    Calls Tryd.prog 21 #[.agg (bs q)] w fun e w' => ∃ g, e = .returned (.agg #[.string (strB (volQ q).1), .slice (some ⟨g, 0, none⟩) (fromL q).length (fromL q).length]) ∧ w.heap.size ≤ g ∧ Row w' g 3 (intsV (fromL q)).toArray ∧ Below w.heap.size w w' := by
  have HS := St.nil w noF
  have hL : (fromL q).length = 3 ∧ (intsV (fromL q)).toArray = #[.int .i64 (bd (q.getD 5 0#8)), .int .i64 (bd (q.getD 6 0#8)), .int .i64 (bd (q.getD 7 0#8))] := by
    have hm : min (q.getD 4 0#8).toNat 4 = 3 := by rw [h4]; rfl
    unfold fromL
    rw [hm]
    obtain ⟨a, b, c, d, e, f, g, i, j, rfl⟩ := list_9 hq
    exact ⟨rfl, rfl⟩
  refine enter_en Tryd.func21 rfl Tryd.ntmps21 (Nat.le_of_ble_eq_true rfl) fun a0 (HA0 : En 37 [(0, .agg (bs q))] a0) => ?_
  refine sq_ <| rl_ <| wl_ <| n_ HA0 rfl (fun _ h => dd_box HS rfl (HA0.ev 0 rfl) (cs := (bs q)) rfl h) fun g1 W1 HS1 a1 H1 => wl_ <| n_ H1 rfl (fun _ h => dd_new HS1 #[.string (⟨#[]⟩), .slice none 0 0] rfl (z := .agg #[.string (⟨#[]⟩), .slice none 0 0]) (by kernel_rfl) rfl h) fun g2 W2 HS2 a2 H2 => ln_ <| nx <| sq_ <| rl_ <| wl_ <| i_ H2 rfl (v := .slice (some ⟨g1, 0, none⟩) 9 9) (dd_slAl (l := 0) (n := 9) (sz := 1) (j := 0) rfl (H2.ev 1 rfl) rfl (by kernel_rfl) (by decide) (by rfl) rfl) fun a3 H3 => wl_ <| i_ H3 rfl (v := .pointer (some ⟨g1, 0, none⟩)) (dd_s2a (m := 4) (sz := 1) rfl (H3.ev 8 rfl) (by kernel_rfl) (by decide)) fun a4 H4 => wl_ <| i_ H4 rfl (v := .agg (bs (q.take 4))) (dd_load HS2 0 0 rfl rfl (H4.ev 9 rfl) (bs_slab0 hq 4 (by decide)) Tryd.underlying50 rfl (by rw [show (bs (q.take 4)).size = 4 from ((size_bs _).trans (len_take hq (by decide)))]; kernel_rfl)) fun a5 H5 => wl_ <| c_ H5 rfl HS2 (dcs Tryd.func28 rfl (args1 (H5.ev 10 rfl)) (cut_any (q.take 4) W2 (len_take hq (by decide))) (.tuple #[.string (strB (cutN (q.take 4)).1), .bool (cutN (q.take 4)).2])) fun W6 HS6 a6 H6 => wl_ <| p_ H6 rfl rfl fun a7 H7 => wl_ <| i_ H7 rfl (dd_ext rfl (H7.ev 7 rfl) rfl) fun a8 H8 => ?_
  clear HS HA0 a0 HS1 H1 a1 H2 a2 H3 a3 H4 a4 H5 a5 HS2 H6 a6
  refine wl_ <| i_ H8 rfl (dd_ext rfl (H8.ev 7 rfl) rfl) fun a9 H9 => q_ H9 2 rfl fun a10 H10 => ln_ <| nx <| sq_ <| rl_ <| wl_ <| p_ H10 rfl rfl fun a11 H11 => wl_ <| i_ H11 rfl (xA 9 1 4 rfl (H11.ev 1 rfl) rfl) fun a12 H12 => wl_ <| i_ H12 rfl (v := .int .u8 3) (dd_get HS6 0 4 rfl rfl (H12.ev 15 rfl) ((bs_get hq 4 (by decide)).trans (by rw [h4]; rfl)) Tryd.underlying5 rfl) fun a13 H13 => wl_ <| i_ H13 rfl (v := .int .u8 3) (dd_minF rfl (H13.ev 16 rfl) rfl (by decide)) fun a14 H14 => wl_ <| n_ H14 rfl (A := fun g18 => .slice (some ⟨g18, 0, none⟩) 3 3) (fun _ h => dd_mk HS6 rfl (H14.ev 17 rfl) (H14.ev 17 rfl) (z := .int .i64 0) (sz := 1) (bytes := 8) (cs := #[.int .i64 0, .int .i64 0, .int .i64 0]) Tryd.underlying43 (by kernel_rfl) (by decide) (by decide) (by decide) (by kernel_rfl) h) fun g18 W15 HS15 a15 H15 => wl_ <| i_ H15 rfl (v := .agg #[.string (strB (cutN (q.take 4)).1), .slice (some ⟨g18, 0, none⟩) 3 3]) (dd_bld rfl (ps := [(0, .string (strB (cutN (q.take 4)).1)), (1, .slice (some ⟨g18, 0, none⟩) 3 3)]) (pr1 (H15.ev 14 rfl) (pr1 (H15.ev 18 rfl) (pr0))) (Lz := [[.string (⟨#[]⟩)], [.slice none 0 0]]) (by kernel_rfl) (lens_cons rfl (lens_cons rfl (lens_nil))) (fit_cons (i := 0) rfl rfl (fit_cons (i := 1) rfl rfl (fit_nil))) (cs := #[.string (strB (cutN (q.take 4)).1), .slice (some ⟨g18, 0, none⟩) 3 3]) rfl) fun a16 H16 => ?_
  clear H7 a7 H8 a8 H9 a9 H10 a10 H11 a11 H12 a12 H13 a13 HS6 H14 a14
  refine wl_ <| n_ H16 rfl (fun _ h => dd_new HS15 #[.string (⟨#[]⟩), .slice none 0 0] rfl (z := .agg #[.string (⟨#[]⟩), .slice none 0 0]) (by kernel_rfl) rfl h) fun g5 W17 HS17 a17 H17 => wl_ <| t_ rfl (fun _ h => dd_setrow HS17 3 rfl rfl (H17.ev 5 rfl) (H17.ev 19 rfl) (by kernel_rfl) (rfl : #[.string (strB (cutN (q.take 4)).1), .slice (some ⟨g18, 0, none⟩) 3 3].size = 2) (rfl : #[.string (⟨#[]⟩), .slice none 0 0].size = 2) (one_l (ao_cons rfl (ao_cons rfl ao_nil))) h) fun W18 HS18 => ln_ <| ?_
  clear H15 a15 HS15 H16 a16 HS17
  have H19 := H17.sel [1, 2, 5] rfl
  refine nx <| sq_ <| sq_ <| rl_ <| wl_ <| i_ H19 rfl (xf 1 1 rfl (H19.ev 5 rfl)) fun a20 H20 => wl_ <| i_ H20 rfl (dd_get HS18 3 1 rfl rfl (H20.ev 20 rfl) rfl Tryd.underlying43 rfl) fun a21 H21 => wl_ <| i_ H21 rfl (v := .int .i64 3) (dd_len rfl (H21.ev 21 rfl) Tryd.underlying43) fun a22 H22 => wl_ <| p_ H22 rfl rfl fun a23 H23 => ln_ <| nx <| wp_block <| wp_unr 4 <| unr_go <| sq_ <| rl_ <| wl_ <| i_ H23 rfl (dd_cmp rfl (H23.ev 23 rfl) (H23.ev 22 rfl) (lt_t (by decide))) fun a24 H24 => ln_ <| nx <| sq_ <| ct_ H24 rfl <| wp_skip <| nx <| sq_ <| wp_block <| sq_ <| rl_ <| q_ H24 2 rfl fun a25 H25 => ln_ <| nx <| ?_
  clear H17 H19 a17 H20 a20 H21 a21 H22 a22 H23 a23 H24 a24
  refine wi_ HS18 [0, 1, 3] rfl [0, 1, 3, 2] rfl fun HSh26 hx26 => ht_ H25 0 hx26 rfl rfl (fun _ _ _ => xf 1 1 rfl (H25.ev 5 rfl)) fun a27 H27 => ht_ H27 1 hx26 rfl rfl (fun _ _ HS9 => dd_get HS9 2 1 rfl rfl (H27.ev 26 rfl) rfl Tryd.underlying43 rfl) fun a28 H28 => hp_ H28 2 hx26 rfl rfl rfl fun a29 H29 => hp_ H29 3 hx26 rfl rfl rfl fun a30 H30 => ht_ H30 4 hx26 rfl rfl (v := .int .i64 5) (fun _ _ _ => dd_ari rfl rfl (H30.ev 29 rfl) rfl (by decide)) fun a31 H31 => ht_ H31 5 hx26 rfl rfl (fun _ _ _ => xA 9 1 5 rfl (H31.ev 1 rfl) (H31.ev 30 rfl)) fun a32 H32 => ht_ H32 6 hx26 rfl rfl (fun _ _ HS9 => dd_get HS9 0 5 rfl rfl (H32.ev 31 rfl) (bs_get hq 5 (by decide)) Tryd.underlying5 rfl) fun a33 H33 => ?_
  clear HS18 H25 a25 H27 a27 H28 a28 H29 a29 H30 a30 H31 a31
  refine ht_ H33 7 hx26 rfl rfl (v := .int .i64 (bd (q.getD 5 0#8))) (fun _ _ _ => dd_conv (k := .i64) rfl (H33.ev 32 rfl) Tryd.underlying5 (by kernel_rfl) (i64_bdA _)) fun a34 H34 => ht_ H34 8 hx26 rfl rfl (fun _ _ _ => xS 1 0 rfl (H34.ev 27 rfl) (H34.ev 28 rfl)) fun a35 H35 => h1_ 9 rfl <| t_ rfl (fun _ h => dd_put (cs := #[.int .i64 (bd (q.getD 5 0#8)), .int .i64 0, .int .i64 0]) HSh26 2 0 rfl rfl (H35.ev 34 rfl) (H35.ev 33 rfl) (by kernel_rfl) rfl rfl rfl rfl h) fun W36 HS36 => sx_ (sxi HS36 [0, 1, 3, 2] rfl) fun hx37 => ?_
  clear H32 a32 H33 a33 H34 a34 HSh26 hx26
  refine wpAnyH_done (by kernel_rfl) ?_ _
  clear hx37
  refine bn <| nx <| rl_ <| wl_ <| i_ H35 rfl (v := .int .i64 1) (dd_ari rfl (H35.ev 23 rfl) rfl rfl (by decide)) fun a38 H38 => wl_ <| p_ H38 rfl rfl fun a39 H39 => ln_ <| nx <| unr_go <| sq_ <| rl_ <| wl_ <| i_ H39 rfl (dd_cmp rfl (H39.ev 23 rfl) (H39.ev 22 rfl) (lt_t (by decide))) fun a40 H40 => ln_ <| nx <| sq_ <| ct_ H40 rfl <| wp_skip <| nx <| sq_ <| wp_block <| sq_ <| rl_ <| q_ H40 2 rfl fun a41 H41 => ln_ <| nx <| ?_
  clear H35 a35 H38 a38 H39 a39 H40 a40
  refine wi_ HS36 [0, 1, 3] rfl [0, 1, 3, 2] rfl fun HSh42 hx42 => ht_ H41 0 hx42 rfl rfl (fun _ _ _ => xf 1 1 rfl (H41.ev 5 rfl)) fun a43 H43 => ht_ H43 1 hx42 rfl rfl (fun _ _ HS9 => dd_get HS9 2 1 rfl rfl (H43.ev 26 rfl) rfl Tryd.underlying43 rfl) fun a44 H44 => hp_ H44 2 hx42 rfl rfl rfl fun a45 H45 => hp_ H45 3 hx42 rfl rfl rfl fun a46 H46 => ht_ H46 4 hx42 rfl rfl (v := .int .i64 6) (fun _ _ _ => dd_ari rfl rfl (H46.ev 29 rfl) rfl (by decide)) fun a47 H47 => ht_ H47 5 hx42 rfl rfl (fun _ _ _ => xA 9 1 6 rfl (H47.ev 1 rfl) (H47.ev 30 rfl)) fun a48 H48 => ht_ H48 6 hx42 rfl rfl (fun _ _ HS9 => dd_get HS9 0 6 rfl rfl (H48.ev 31 rfl) (bs_get hq 6 (by decide)) Tryd.underlying5 rfl) fun a49 H49 => ?_
  clear HS36 H41 a41 H43 a43 H44 a44 H45 a45 H46 a46 H47 a47
  refine ht_ H49 7 hx42 rfl rfl (v := .int .i64 (bd (q.getD 6 0#8))) (fun _ _ _ => dd_conv (k := .i64) rfl (H49.ev 32 rfl) Tryd.underlying5 (by kernel_rfl) (i64_bdA _)) fun a50 H50 => ht_ H50 8 hx42 rfl rfl (fun _ _ _ => xS 1 1 rfl (H50.ev 27 rfl) (H50.ev 28 rfl)) fun a51 H51 => h1_ 9 rfl <| t_ rfl (fun _ h => dd_put (cs := #[.int .i64 (bd (q.getD 5 0#8)), .int .i64 (bd (q.getD 6 0#8)), .int .i64 0]) HSh42 2 1 rfl rfl (H51.ev 34 rfl) (H51.ev 33 rfl) (by kernel_rfl) rfl rfl rfl rfl h) fun W52 HS52 => sx_ (sxi HS52 [0, 1, 3, 2] rfl) fun hx53 => ?_
  clear H48 a48 H49 a49 H50 a50 HSh42 hx42
  refine wpAnyH_done (by kernel_rfl) ?_ _
  clear hx53
  refine bn <| nx <| rl_ <| wl_ <| i_ H51 rfl (v := .int .i64 2) (dd_ari rfl (H51.ev 23 rfl) rfl rfl (by decide)) fun a54 H54 => wl_ <| p_ H54 rfl rfl fun a55 H55 => ln_ <| nx <| unr_go <| sq_ <| rl_ <| wl_ <| i_ H55 rfl (dd_cmp rfl (H55.ev 23 rfl) (H55.ev 22 rfl) (lt_t (by decide))) fun a56 H56 => ln_ <| nx <| sq_ <| ct_ H56 rfl <| wp_skip <| nx <| sq_ <| wp_block <| sq_ <| rl_ <| q_ H56 2 rfl fun a57 H57 => ln_ <| nx <| ?_
  clear H51 a51 H54 a54 H55 a55 H56 a56
  refine wi_ HS52 [0, 1, 3] rfl [0, 1, 3, 2] rfl fun HSh58 hx58 => ht_ H57 0 hx58 rfl rfl (fun _ _ _ => xf 1 1 rfl (H57.ev 5 rfl)) fun a59 H59 => ht_ H59 1 hx58 rfl rfl (fun _ _ HS9 => dd_get HS9 2 1 rfl rfl (H59.ev 26 rfl) rfl Tryd.underlying43 rfl) fun a60 H60 => hp_ H60 2 hx58 rfl rfl rfl fun a61 H61 => hp_ H61 3 hx58 rfl rfl rfl fun a62 H62 => ht_ H62 4 hx58 rfl rfl (v := .int .i64 7) (fun _ _ _ => dd_ari rfl rfl (H62.ev 29 rfl) rfl (by decide)) fun a63 H63 => ht_ H63 5 hx58 rfl rfl (fun _ _ _ => xA 9 1 7 rfl (H63.ev 1 rfl) (H63.ev 30 rfl)) fun a64 H64 => ht_ H64 6 hx58 rfl rfl (fun _ _ HS9 => dd_get HS9 0 7 rfl rfl (H64.ev 31 rfl) (bs_get hq 7 (by decide)) Tryd.underlying5 rfl) fun a65 H65 => ?_
  clear HS52 H57 a57 H59 a59 H60 a60 H61 a61 H62 a62 H63 a63
  refine ht_ H65 7 hx58 rfl rfl (v := .int .i64 (bd (q.getD 7 0#8))) (fun _ _ _ => dd_conv (k := .i64) rfl (H65.ev 32 rfl) Tryd.underlying5 (by kernel_rfl) (i64_bdA _)) fun a66 H66 => ht_ H66 8 hx58 rfl rfl (fun _ _ _ => xS 1 2 rfl (H66.ev 27 rfl) (H66.ev 28 rfl)) fun a67 H67 => h1_ 9 rfl <| t_ rfl (fun _ h => dd_put (cs := #[.int .i64 (bd (q.getD 5 0#8)), .int .i64 (bd (q.getD 6 0#8)), .int .i64 (bd (q.getD 7 0#8))]) HSh58 2 2 rfl rfl (H67.ev 34 rfl) (H67.ev 33 rfl) (by kernel_rfl) rfl rfl rfl rfl h) fun W68 HS68 => sx_ (sxi HS68 [0, 1, 3, 2] rfl) fun hx69 => ?_
  clear H64 a64 H65 a65 H66 a66 HSh58 hx58
  refine wpAnyH_done (by kernel_rfl) ?_ _
  clear hx69
  refine bn <| nx <| rl_ <| wl_ <| i_ H67 rfl (v := .int .i64 3) (dd_ari rfl (H67.ev 23 rfl) rfl rfl (by decide)) fun a70 H70 => wl_ <| p_ H70 rfl rfl fun a71 H71 => ln_ <| nx <| unr_go <| sq_ <| rl_ <| wl_ <| i_ H71 rfl (dd_cmp rfl (H71.ev 23 rfl) (H71.ev 22 rfl) (lt_f (by decide))) fun a72 H72 => ln_ <| nx <| sq_ <| cf_ H72 rfl <| wp_exit <| tx <| tx <| bx <| nx <| sq_ <| rl_ <| wl_ <| i_ H72 rfl (v := .agg #[.string (strB (cutN (q.take 4)).1), .slice (some ⟨g18, 0, none⟩) 3 3]) (dd_load HS68 3 0 rfl rfl (H72.ev 5 rfl) (slab_whole _) Tryd.underlying45 rfl (by kernel_rfl)) fun a73 H73 => wl_ <| t_ rfl (fun _ h => dd_setrow HS68 1 rfl rfl (H73.ev 2 rfl) (H73.ev 36 rfl) (by kernel_rfl) (rfl : #[.string (strB (cutN (q.take 4)).1), .slice (some ⟨g18, 0, none⟩) 3 3].size = 2) (rfl : #[.string (⟨#[]⟩), .slice none 0 0].size = 2) (one_l (ao_cons rfl (ao_cons rfl ao_nil))) h) fun W74 HS74 => ln_ <| ?_
  clear H67 a67 H70 a70 H71 a71 H72 a72 HS68
  have H75 := H73.sel [2] rfl
  refine nx <| wp_ret <| ret_run H75.env0 (res_c Tryd.results21 (H75.get 2 rfl) (HS74.row 1 rfl) Tryd.underlying45 rfl (by kernel_rfl)) <| ?_
  clear H73
  refine ⟨g18, ?_, st_fresh HS74 2 rfl, ?_, HS74.below⟩
  · rw [hL.1]; rfl
  · rw [hL.2]; exact HS74.row 2 rfl
set_option maxHeartbeats 800000 in
theorem frombytes4 (q : List (BitVec 8)) (w : World) (hq : q.length = 9) (h4 : q.getD 4 0#8 = 4#8) :
    Calls Tryd.prog 21 #[.agg (bs q)] w fun e w' => ∃ g, e = .returned (.agg #[.string (strB (volQ q).1), .slice (some ⟨g, 0, none⟩) (fromL q).length (fromL q).length]) ∧ w.heap.size ≤ g ∧ Row w' g 3 (intsV (fromL q)).toArray ∧ Below w.heap.size w w' := by
  have HS := St.nil w noF
  have hL : (fromL q).length = 4 ∧ (intsV (fromL q)).toArray = #[.int .i64 (bd (q.getD 5 0#8)), .int .i64 (bd (q.getD 6 0#8)), .int .i64 (bd (q.getD 7 0#8)), .int .i64 (bd (q.getD 8 0#8))] := by
    have hm : min (q.getD 4 0#8).toNat 4 = 4 := by rw [h4]; rfl
    unfold fromL
    rw [hm]
    obtain ⟨a, b, c, d, e, f, g, i, j, rfl⟩ := list_9 hq
    exact ⟨rfl, rfl⟩
  refine enter_en Tryd.func21 rfl Tryd.ntmps21 (Nat.le_of_ble_eq_true rfl) fun a0 (HA0 : En 37 [(0, .agg (bs q))] a0) => ?_
  refine sq_ <| rl_ <| wl_ <| n_ HA0 rfl (fun _ h => dd_box HS rfl (HA0.ev 0 rfl) (cs := (bs q)) rfl h) fun g1 W1 HS1 a1 H1 => wl_ <| n_ H1 rfl (fun _ h => dd_new HS1 #[.string (⟨#[]⟩), .slice none 0 0] rfl (z := .agg #[.string (⟨#[]⟩), .slice none 0 0]) (by kernel_rfl) rfl h) fun g2 W2 HS2 a2 H2 => ln_ <| nx <| sq_ <| rl_ <| wl_ <| i_ H2 rfl (v := .slice (some ⟨g1, 0, none⟩) 9 9) (dd_slAl (l := 0) (n := 9) (sz := 1) (j := 0) rfl (H2.ev 1 rfl) rfl (by kernel_rfl) (by decide) (by rfl) rfl) fun a3 H3 => wl_ <| i_ H3 rfl (v := .pointer (some ⟨g1, 0, none⟩)) (dd_s2a (m := 4) (sz := 1) rfl (H3.ev 8 rfl) (by kernel_rfl) (by decide)) fun a4 H4 => wl_ <| i_ H4 rfl (v := .agg (bs (q.take 4))) (dd_load HS2 0 0 rfl rfl (H4.ev 9 rfl) (bs_slab0 hq 4 (by decide)) Tryd.underlying50 rfl (by rw [show (bs (q.take 4)).size = 4 from ((size_bs _).trans (len_take hq (by decide)))]; kernel_rfl)) fun a5 H5 => wl_ <| c_ H5 rfl HS2 (dcs Tryd.func28 rfl (args1 (H5.ev 10 rfl)) (cut_any (q.take 4) W2 (len_take hq (by decide))) (.tuple #[.string (strB (cutN (q.take 4)).1), .bool (cutN (q.take 4)).2])) fun W6 HS6 a6 H6 => wl_ <| p_ H6 rfl rfl fun a7 H7 => wl_ <| i_ H7 rfl (dd_ext rfl (H7.ev 7 rfl) rfl) fun a8 H8 => ?_
  clear HS HA0 a0 HS1 H1 a1 H2 a2 H3 a3 H4 a4 H5 a5 HS2 H6 a6
  refine wl_ <| i_ H8 rfl (dd_ext rfl (H8.ev 7 rfl) rfl) fun a9 H9 => q_ H9 2 rfl fun a10 H10 => ln_ <| nx <| sq_ <| rl_ <| wl_ <| p_ H10 rfl rfl fun a11 H11 => wl_ <| i_ H11 rfl (xA 9 1 4 rfl (H11.ev 1 rfl) rfl) fun a12 H12 => wl_ <| i_ H12 rfl (v := .int .u8 4) (dd_get HS6 0 4 rfl rfl (H12.ev 15 rfl) ((bs_get hq 4 (by decide)).trans (by rw [h4]; rfl)) Tryd.underlying5 rfl) fun a13 H13 => wl_ <| i_ H13 rfl (v := .int .u8 4) (dd_minF rfl (H13.ev 16 rfl) rfl (by decide)) fun a14 H14 => wl_ <| n_ H14 rfl (A := fun g18 => .slice (some ⟨g18, 0, none⟩) 4 4) (fun _ h => dd_mk HS6 rfl (H14.ev 17 rfl) (H14.ev 17 rfl) (z := .int .i64 0) (sz := 1) (bytes := 8) (cs := #[.int .i64 0, .int .i64 0, .int .i64 0, .int .i64 0]) Tryd.underlying43 (by kernel_rfl) (by decide) (by decide) (by decide) (by kernel_rfl) h) fun g18 W15 HS15 a15 H15 => wl_ <| i_ H15 rfl (v := .agg #[.string (strB (cutN (q.take 4)).1), .slice (some ⟨g18, 0, none⟩) 4 4]) (dd_bld rfl (ps := [(0, .string (strB (cutN (q.take 4)).1)), (1, .slice (some ⟨g18, 0, none⟩) 4 4)]) (pr1 (H15.ev 14 rfl) (pr1 (H15.ev 18 rfl) (pr0))) (Lz := [[.string (⟨#[]⟩)], [.slice none 0 0]]) (by kernel_rfl) (lens_cons rfl (lens_cons rfl (lens_nil))) (fit_cons (i := 0) rfl rfl (fit_cons (i := 1) rfl rfl (fit_nil))) (cs := #[.string (strB (cutN (q.take 4)).1), .slice (some ⟨g18, 0, none⟩) 4 4]) rfl) fun a16 H16 => ?_
  clear H7 a7 H8 a8 H9 a9 H10 a10 H11 a11 H12 a12 H13 a13 HS6 H14 a14
  refine wl_ <| n_ H16 rfl (fun _ h => dd_new HS15 #[.string (⟨#[]⟩), .slice none 0 0] rfl (z := .agg #[.string (⟨#[]⟩), .slice none 0 0]) (by kernel_rfl) rfl h) fun g5 W17 HS17 a17 H17 => wl_ <| t_ rfl (fun _ h => dd_setrow HS17 3 rfl rfl (H17.ev 5 rfl) (H17.ev 19 rfl) (by kernel_rfl) (rfl : #[.string (strB (cutN (q.take 4)).1), .slice (some ⟨g18, 0, none⟩) 4 4].size = 2) (rfl : #[.string (⟨#[]⟩), .slice none 0 0].size = 2) (one_l (ao_cons rfl (ao_cons rfl ao_nil))) h) fun W18 HS18 => ln_ <| ?_
  clear H15 a15 HS15 H16 a16 HS17
  have H19 := H17.sel [1, 2, 5] rfl
  refine nx <| sq_ <| sq_ <| rl_ <| wl_ <| i_ H19 rfl (xf 1 1 rfl (H19.ev 5 rfl)) fun a20 H20 => wl_ <| i_ H20 rfl (dd_get HS18 3 1 rfl rfl (H20.ev 20 rfl) rfl Tryd.underlying43 rfl) fun a21 H21 => wl_ <| i_ H21 rfl (v := .int .i64 4) (dd_len rfl (H21.ev 21 rfl) Tryd.underlying43) fun a22 H22 => wl_ <| p_ H22 rfl rfl fun a23 H23 => ln_ <| nx <| wp_block <| wp_unr 5 <| unr_go <| sq_ <| rl_ <| wl_ <| i_ H23 rfl (dd_cmp rfl (H23.ev 23 rfl) (H23.ev 22 rfl) (lt_t (by decide))) fun a24 H24 => ln_ <| nx <| sq_ <| ct_ H24 rfl <| wp_skip <| nx <| sq_ <| wp_block <| sq_ <| rl_ <| q_ H24 2 rfl fun a25 H25 => ln_ <| nx <| ?_
  clear H17 H19 a17 H20 a20 H21 a21 H22 a22 H23 a23 H24 a24
  refine wi_ HS18 [0, 1, 3] rfl [0, 1, 3, 2] rfl fun HSh26 hx26 => ht_ H25 0 hx26 rfl rfl (fun _ _ _ => xf 1 1 rfl (H25.ev 5 rfl)) fun a27 H27 => ht_ H27 1 hx26 rfl rfl (fun _ _ HS9 => dd_get HS9 2 1 rfl rfl (H27.ev 26 rfl) rfl Tryd.underlying43 rfl) fun a28 H28 => hp_ H28 2 hx26 rfl rfl rfl fun a29 H29 => hp_ H29 3 hx26 rfl rfl rfl fun a30 H30 => ht_ H30 4 hx26 rfl rfl (v := .int .i64 5) (fun _ _ _ => dd_ari rfl rfl (H30.ev 29 rfl) rfl (by decide)) fun a31 H31 => ht_ H31 5 hx26 rfl rfl (fun _ _ _ => xA 9 1 5 rfl (H31.ev 1 rfl) (H31.ev 30 rfl)) fun a32 H32 => ht_ H32 6 hx26 rfl rfl (fun _ _ HS9 => dd_get HS9 0 5 rfl rfl (H32.ev 31 rfl) (bs_get hq 5 (by decide)) Tryd.underlying5 rfl) fun a33 H33 => ?_
  clear HS18 H25 a25 H27 a27 H28 a28 H29 a29 H30 a30 H31 a31
  refine ht_ H33 7 hx26 rfl rfl (v := .int .i64 (bd (q.getD 5 0#8))) (fun _ _ _ => dd_conv (k := .i64) rfl (H33.ev 32 rfl) Tryd.underlying5 (by kernel_rfl) (i64_bdA _)) fun a34 H34 => ht_ H34 8 hx26 rfl rfl (fun _ _ _ => xS 1 0 rfl (H34.ev 27 rfl) (H34.ev 28 rfl)) fun a35 H35 => h1_ 9 rfl <| t_ rfl (fun _ h => dd_put (cs := #[.int .i64 (bd (q.getD 5 0#8)), .int .i64 0, .int .i64 0, .int .i64 0]) HSh26 2 0 rfl rfl (H35.ev 34 rfl) (H35.ev 33 rfl) (by kernel_rfl) rfl rfl rfl rfl h) fun W36 HS36 => sx_ (sxi HS36 [0, 1, 3, 2] rfl) fun hx37 => ?_
  clear H32 a32 H33 a33 H34 a34 HSh26 hx26
  refine wpAnyH_done (by kernel_rfl) ?_ _
  clear hx37
  refine bn <| nx <| rl_ <| wl_ <| i_ H35 rfl (v := .int .i64 1) (dd_ari rfl (H35.ev 23 rfl) rfl rfl (by decide)) fun a38 H38 => wl_ <| p_ H38 rfl rfl fun a39 H39 => ln_ <| nx <| unr_go <| sq_ <| rl_ <| wl_ <| i_ H39 rfl (dd_cmp rfl (H39.ev 23 rfl) (H39.ev 22 rfl) (lt_t (by decide))) fun a40 H40 => ln_ <| nx <| sq_ <| ct_ H40 rfl <| wp_skip <| nx <| sq_ <| wp_block <| sq_ <| rl_ <| q_ H40 2 rfl fun a41 H41 => ln_ <| nx <| ?_
  clear H35 a35 H38 a38 H39 a39 H40 a40
  refine wi_ HS36 [0, 1, 3] rfl [0, 1, 3, 2] rfl fun HSh42 hx42 => ht_ H41 0 hx42 rfl rfl (fun _ _ _ => xf 1 1 rfl (H41.ev 5 rfl)) fun a43 H43 => ht_ H43 1 hx42 rfl rfl (fun _ _ HS9 => dd_get HS9 2 1 rfl rfl (H43.ev 26 rfl) rfl Tryd.underlying43 rfl) fun a44 H44 => hp_ H44 2 hx42 rfl rfl rfl fun a45 H45 => hp_ H45 3 hx42 rfl rfl rfl fun a46 H46 => ht_ H46 4 hx42 rfl rfl (v := .int .i64 6) (fun _ _ _ => dd_ari rfl rfl (H46.ev 29 rfl) rfl (by decide)) fun a47 H47 => ht_ H47 5 hx42 rfl rfl (fun _ _ _ => xA 9 1 6 rfl (H47.ev 1 rfl) (H47.ev 30 rfl)) fun a48 H48 => ht_ H48 6 hx42 rfl rfl (fun _ _ HS9 => dd_get HS9 0 6 rfl rfl (H48.ev 31 rfl) (bs_get hq 6 (by decide)) Tryd.underlying5 rfl) fun a49 H49 => ?_
  clear HS36 H41 a41 H43 a43 H44 a44 H45 a45 H46 a46 H47 a47
  refine ht_ H49 7 hx42 rfl rfl (v := .int .i64 (bd (q.getD 6 0#8))) (fun _ _ _ => dd_conv (k := .i64) rfl (H49.ev 32 rfl) Tryd.underlying5 (by kernel_rfl) (i64_bdA _)) fun a50 H50 => ht_ H50 8 hx42 rfl rfl (fun _ _ _ => xS 1 1 rfl (H50.ev 27 rfl) (H50.ev 28 rfl)) fun a51 H51 => h1_ 9 rfl <| t_ rfl (fun _ h => dd_put (cs := #[.int .i64 (bd (q.getD 5 0#8)), .int .i64 (bd (q.getD 6 0#8)), .int .i64 0, .int .i64 0]) HSh42 2 1 rfl rfl (H51.ev 34 rfl) (H51.ev 33 rfl) (by kernel_rfl) rfl rfl rfl rfl h) fun W52 HS52 => sx_ (sxi HS52 [0, 1, 3, 2] rfl) fun hx53 => ?_
  clear H48 a48 H49 a49 H50 a50 HSh42 hx42
  refine wpAnyH_done (by kernel_rfl) ?_ _
  clear hx53
  refine bn <| nx <| rl_ <| wl_ <| i_ H51 rfl (v := .int .i64 2) (dd_ari rfl (H51.ev 23 rfl) rfl rfl (by decide)) fun a54 H54 => wl_ <| p_ H54 rfl rfl fun a55 H55 => ln_ <| nx <| unr_go <| sq_ <| rl_ <| wl_ <| i_ H55 rfl (dd_cmp rfl (H55.ev 23 rfl) (H55.ev 22 rfl) (lt_t (by decide))) fun a56 H56 => ln_ <| nx <| sq_ <| ct_ H56 rfl <| wp_skip <| nx <| sq_ <| wp_block <| sq_ <| rl_ <| q_ H56 2 rfl fun a57 H57 => ln_ <| nx <| ?_
  clear H51 a51 H54 a54 H55 a55 H56 a56
  refine wi_ HS52 [0, 1, 3] rfl [0, 1, 3, 2] rfl fun HSh58 hx58 => ht_ H57 0 hx58 rfl rfl (fun _ _ _ => xf 1 1 rfl (H57.ev 5 rfl)) fun a59 H59 => ht_ H59 1 hx58 rfl rfl (fun _ _ HS9 => dd_get HS9 2 1 rfl rfl (H59.ev 26 rfl) rfl Tryd.underlying43 rfl) fun a60 H60 => hp_ H60 2 hx58 rfl rfl rfl fun a61 H61 => hp_ H61 3 hx58 rfl rfl rfl fun a62 H62 => ht_ H62 4 hx58 rfl rfl (v := .int .i64 7) (fun _ _ _ => dd_ari rfl rfl (H62.ev 29 rfl) rfl (by decide)) fun a63 H63 => ht_ H63 5 hx58 rfl rfl (fun _ _ _ => xA 9 1 7 rfl (H63.ev 1 rfl) (H63.ev 30 rfl)) fun a64 H64 => ht_ H64 6 hx58 rfl rfl (fun _ _ HS9 => dd_get HS9 0 7 rfl rfl (H64.ev 31 rfl) (bs_get hq 7 (by decide)) Tryd.underlying5 rfl) fun a65 H65 => ?_
  clear HS52 H57 a57 H59 a59 H60 a60 H61 a61 H62 a62 H63 a63
  refine ht_ H65 7 hx58 rfl rfl (v := .int .i64 (bd (q.getD 7 0#8))) (fun _ _ _ => dd_conv (k := .i64) rfl (H65.ev 32 rfl) Tryd.underlying5 (by kernel_rfl) (i64_bdA _)) fun a66 H66 => ht_ H66 8 hx58 rfl rfl (fun _ _ _ => xS 1 2 rfl (H66.ev 27 rfl) (H66.ev 28 rfl)) fun a67 H67 => h1_ 9 rfl <| t_ rfl (fun _ h => dd_put (cs := #[.int .i64 (bd (q.getD 5 0#8)), .int .i64 (bd (q.getD 6 0#8)), .int .i64 (bd (q.getD 7 0#8)), .int .i64 0]) HSh58 2 2 rfl rfl (H67.ev 34 rfl) (H67.ev 33 rfl) (by kernel_rfl) rfl rfl rfl rfl h) fun W68 HS68 => sx_ (sxi HS68 [0, 1, 3, 2] rfl) fun hx69 => ?_
  clear H64 a64 H65 a65 H66 a66 HSh58 hx58
  refine wpAnyH_done (by kernel_rfl) ?_ _
  clear hx69
  refine bn <| nx <| rl_ <| wl_ <| i_ H67 rfl (v := .int .i64 3) (dd_ari rfl (H67.ev 23 rfl) rfl rfl (by decide)) fun a70 H70 => wl_ <| p_ H70 rfl rfl fun a71 H71 => ln_ <| nx <| unr_go <| sq_ <| rl_ <| wl_ <| i_ H71 rfl (dd_cmp rfl (H71.ev 23 rfl) (H71.ev 22 rfl) (lt_t (by decide))) fun a72 H72 => ln_ <| nx <| sq_ <| ct_ H72 rfl <| wp_skip <| nx <| sq_ <| wp_block <| sq_ <| rl_ <| q_ H72 2 rfl fun a73 H73 => ln_ <| nx <| ?_
  clear H67 a67 H70 a70 H71 a71 H72 a72
  refine wi_ HS68 [0, 1, 3] rfl [0, 1, 3, 2] rfl fun HSh74 hx74 => ht_ H73 0 hx74 rfl rfl (fun _ _ _ => xf 1 1 rfl (H73.ev 5 rfl)) fun a75 H75 => ht_ H75 1 hx74 rfl rfl (fun _ _ HS9 => dd_get HS9 2 1 rfl rfl (H75.ev 26 rfl) rfl Tryd.underlying43 rfl) fun a76 H76 => hp_ H76 2 hx74 rfl rfl rfl fun a77 H77 => hp_ H77 3 hx74 rfl rfl rfl fun a78 H78 => ht_ H78 4 hx74 rfl rfl (v := .int .i64 8) (fun _ _ _ => dd_ari rfl rfl (H78.ev 29 rfl) rfl (by decide)) fun a79 H79 => ht_ H79 5 hx74 rfl rfl (fun _ _ _ => xA 9 1 8 rfl (H79.ev 1 rfl) (H79.ev 30 rfl)) fun a80 H80 => ht_ H80 6 hx74 rfl rfl (fun _ _ HS9 => dd_get HS9 0 8 rfl rfl (H80.ev 31 rfl) (bs_get hq 8 (by decide)) Tryd.underlying5 rfl) fun a81 H81 => ?_
  clear HS68 H73 a73 H75 a75 H76 a76 H77 a77 H78 a78 H79 a79
  refine ht_ H81 7 hx74 rfl rfl (v := .int .i64 (bd (q.getD 8 0#8))) (fun _ _ _ => dd_conv (k := .i64) rfl (H81.ev 32 rfl) Tryd.underlying5 (by kernel_rfl) (i64_bdA _)) fun a82 H82 => ht_ H82 8 hx74 rfl rfl (fun _ _ _ => xS 1 3 rfl (H82.ev 27 rfl) (H82.ev 28 rfl)) fun a83 H83 => h1_ 9 rfl <| t_ rfl (fun _ h => dd_put (cs := #[.int .i64 (bd (q.getD 5 0#8)), .int .i64 (bd (q.getD 6 0#8)), .int .i64 (bd (q.getD 7 0#8)), .int .i64 (bd (q.getD 8 0#8))]) HSh74 2 3 rfl rfl (H83.ev 34 rfl) (H83.ev 33 rfl) (by kernel_rfl) rfl rfl rfl rfl h) fun W84 HS84 => sx_ (sxi HS84 [0, 1, 3, 2] rfl) fun hx85 => ?_
  clear H80 a80 H81 a81 H82 a82 HSh74 hx74
  refine wpAnyH_done (by kernel_rfl) ?_ _
  clear hx85
  refine bn <| nx <| rl_ <| wl_ <| i_ H83 rfl (v := .int .i64 4) (dd_ari rfl (H83.ev 23 rfl) rfl rfl (by decide)) fun a86 H86 => wl_ <| p_ H86 rfl rfl fun a87 H87 => ln_ <| nx <| unr_go <| sq_ <| rl_ <| wl_ <| i_ H87 rfl (dd_cmp rfl (H87.ev 23 rfl) (H87.ev 22 rfl) (lt_f (by decide))) fun a88 H88 => ln_ <| nx <| sq_ <| cf_ H88 rfl <| wp_exit <| tx <| tx <| bx <| nx <| sq_ <| rl_ <| wl_ <| i_ H88 rfl (v := .agg #[.string (strB (cutN (q.take 4)).1), .slice (some ⟨g18, 0, none⟩) 4 4]) (dd_load HS84 3 0 rfl rfl (H88.ev 5 rfl) (slab_whole _) Tryd.underlying45 rfl (by kernel_rfl)) fun a89 H89 => wl_ <| t_ rfl (fun _ h => dd_setrow HS84 1 rfl rfl (H89.ev 2 rfl) (H89.ev 36 rfl) (by kernel_rfl) (rfl : #[.string (strB (cutN (q.take 4)).1), .slice (some ⟨g18, 0, none⟩) 4 4].size = 2) (rfl : #[.string (⟨#[]⟩), .slice none 0 0].size = 2) (one_l (ao_cons rfl (ao_cons rfl ao_nil))) h) fun W90 HS90 => ln_ <| ?_
  clear H83 a83 H86 a86 H87 a87 H88 a88 HS84
  have H91 := H89.sel [2] rfl
  refine nx <| wp_ret <| ret_run H91.env0 (res_c Tryd.results21 (H91.get 2 rfl) (HS90.row 1 rfl) Tryd.underlying45 rfl (by kernel_rfl)) <| ?_
  clear H89
  refine ⟨g18, ?_, st_fresh HS90 2 rfl, ?_, HS90.below⟩
  · rw [hL.1]; rfl
  · rw [hL.2]; exact HS90.row 2 rfl
set_option maxHeartbeats 800000 in
theorem frombytes5 (q : List (BitVec 8)) (w : World) (hq : q.length = 9) (h4 : (4 : Int) < bd (q.getD 4 0#8)) :
    Calls Tryd.prog 21 #[.agg (bs q)] w fun e w' => ∃ g, e = .returned (.agg #[.string (strB (volQ q).1), .slice (some ⟨g, 0, none⟩) (fromL q).length (fromL q).length]) ∧ w.heap.size ≤ g ∧ Row w' g 3 (intsV (fromL q)).toArray ∧ Below w.heap.size w w' := by
  have HS := St.nil w noF
  have hL : (fromL q).length = 4 ∧ (intsV (fromL q)).toArray = #[.int .i64 (bd (q.getD 5 0#8)), .int .i64 (bd (q.getD 6 0#8)), .int .i64 (bd (q.getD 7 0#8)), .int .i64 (bd (q.getD 8 0#8))] := by
    have hm : min (q.getD 4 0#8).toNat 4 = 4 := by unfold bd at h4; omega
    unfold fromL
    rw [hm]
    obtain ⟨a, b, c, d, e, f, g, i, j, rfl⟩ := list_9 hq
    exact ⟨rfl, rfl⟩
  refine enter_en Tryd.func21 rfl Tryd.ntmps21 (Nat.le_of_ble_eq_true rfl) fun a0 (HA0 : En 37 [(0, .agg (bs q))] a0) => ?_
  refine sq_ <| rl_ <| wl_ <| n_ HA0 rfl (fun _ h => dd_box HS rfl (HA0.ev 0 rfl) (cs := (bs q)) rfl h) fun g1 W1 HS1 a1 H1 => wl_ <| n_ H1 rfl (fun _ h => dd_new HS1 #[.string (⟨#[]⟩), .slice none 0 0] rfl (z := .agg #[.string (⟨#[]⟩), .slice none 0 0]) (by kernel_rfl) rfl h) fun g2 W2 HS2 a2 H2 => ln_ <| nx <| sq_ <| rl_ <| wl_ <| i_ H2 rfl (v := .slice (some ⟨g1, 0, none⟩) 9 9) (dd_slAl (l := 0) (n := 9) (sz := 1) (j := 0) rfl (H2.ev 1 rfl) rfl (by kernel_rfl) (by decide) (by rfl) rfl) fun a3 H3 => wl_ <| i_ H3 rfl (v := .pointer (some ⟨g1, 0, none⟩)) (dd_s2a (m := 4) (sz := 1) rfl (H3.ev 8 rfl) (by kernel_rfl) (by decide)) fun a4 H4 => wl_ <| i_ H4 rfl (v := .agg (bs (q.take 4))) (dd_load HS2 0 0 rfl rfl (H4.ev 9 rfl) (bs_slab0 hq 4 (by decide)) Tryd.underlying50 rfl (by rw [show (bs (q.take 4)).size = 4 from ((size_bs _).trans (len_take hq (by decide)))]; kernel_rfl)) fun a5 H5 => wl_ <| c_ H5 rfl HS2 (dcs Tryd.func28 rfl (args1 (H5.ev 10 rfl)) (cut_any (q.take 4) W2 (len_take hq (by decide))) (.tuple #[.string (strB (cutN (q.take 4)).1), .bool (cutN (q.take 4)).2])) fun W6 HS6 a6 H6 => wl_ <| p_ H6 rfl rfl fun a7 H7 => wl_ <| i_ H7 rfl (dd_ext rfl (H7.ev 7 rfl) rfl) fun a8 H8 => ?_
  clear HS HA0 a0 HS1 H1 a1 H2 a2 H3 a3 H4 a4 H5 a5 HS2 H6 a6
  refine wl_ <| i_ H8 rfl (dd_ext rfl (H8.ev 7 rfl) rfl) fun a9 H9 => q_ H9 2 rfl fun a10 H10 => ln_ <| nx <| sq_ <| rl_ <| wl_ <| p_ H10 rfl rfl fun a11 H11 => wl_ <| i_ H11 rfl (xA 9 1 4 rfl (H11.ev 1 rfl) rfl) fun a12 H12 => wl_ <| i_ H12 rfl (dd_get HS6 0 4 rfl rfl (H12.ev 15 rfl) (bs_get hq 4 (by decide)) Tryd.underlying5 rfl) fun a13 H13 => wl_ <| i_ H13 rfl (v := .int .u8 4) (dd_minT rfl (H13.ev 16 rfl) rfl h4) fun a14 H14 => wl_ <| n_ H14 rfl (A := fun g18 => .slice (some ⟨g18, 0, none⟩) 4 4) (fun _ h => dd_mk HS6 rfl (H14.ev 17 rfl) (H14.ev 17 rfl) (z := .int .i64 0) (sz := 1) (bytes := 8) (cs := #[.int .i64 0, .int .i64 0, .int .i64 0, .int .i64 0]) Tryd.underlying43 (by kernel_rfl) (by decide) (by decide) (by decide) (by kernel_rfl) h) fun g18 W15 HS15 a15 H15 => wl_ <| i_ H15 rfl (v := .agg #[.string (strB (cutN (q.take 4)).1), .slice (some ⟨g18, 0, none⟩) 4 4]) (dd_bld rfl (ps := [(0, .string (strB (cutN (q.take 4)).1)), (1, .slice (some ⟨g18, 0, none⟩) 4 4)]) (pr1 (H15.ev 14 rfl) (pr1 (H15.ev 18 rfl) (pr0))) (Lz := [[.string (⟨#[]⟩)], [.slice none 0 0]]) (by kernel_rfl) (lens_cons rfl (lens_cons rfl (lens_nil))) (fit_cons (i := 0) rfl rfl (fit_cons (i := 1) rfl rfl (fit_nil))) (cs := #[.string (strB (cutN (q.take 4)).1), .slice (some ⟨g18, 0, none⟩) 4 4]) rfl) fun a16 H16 => ?_
  clear H7 a7 H8 a8 H9 a9 H10 a10 H11 a11 H12 a12 H13 a13 HS6 H14 a14
  refine wl_ <| n_ H16 rfl (fun _ h => dd_new HS15 #[.string (⟨#[]⟩), .slice none 0 0] rfl (z := .agg #[.string (⟨#[]⟩), .slice none 0 0]) (by kernel_rfl) rfl h) fun g5 W17 HS17 a17 H17 => wl_ <| t_ rfl (fun _ h => dd_setrow HS17 3 rfl rfl (H17.ev 5 rfl) (H17.ev 19 rfl) (by kernel_rfl) (rfl : #[.string (strB (cutN (q.take 4)).1), .slice (some ⟨g18, 0, none⟩) 4 4].size = 2) (rfl : #[.string (⟨#[]⟩), .slice none 0 0].size = 2) (one_l (ao_cons rfl (ao_cons rfl ao_nil))) h) fun W18 HS18 => ln_ <| ?_
  clear H15 a15 HS15 H16 a16 HS17
  have H19 := H17.sel [1, 2, 5] rfl
  refine nx <| sq_ <| sq_ <| rl_ <| wl_ <| i_ H19 rfl (xf 1 1 rfl (H19.ev 5 rfl)) fun a20 H20 => wl_ <| i_ H20 rfl (dd_get HS18 3 1 rfl rfl (H20.ev 20 rfl) rfl Tryd.underlying43 rfl) fun a21 H21 => wl_ <| i_ H21 rfl (v := .int .i64 4) (dd_len rfl (H21.ev 21 rfl) Tryd.underlying43) fun a22 H22 => wl_ <| p_ H22 rfl rfl fun a23 H23 => ln_ <| nx <| wp_block <| wp_unr 5 <| unr_go <| sq_ <| rl_ <| wl_ <| i_ H23 rfl (dd_cmp rfl (H23.ev 23 rfl) (H23.ev 22 rfl) (lt_t (by decide))) fun a24 H24 => ln_ <| nx <| sq_ <| ct_ H24 rfl <| wp_skip <| nx <| sq_ <| wp_block <| sq_ <| rl_ <| q_ H24 2 rfl fun a25 H25 => ln_ <| nx <| ?_
  clear H17 H19 a17 H20 a20 H21 a21 H22 a22 H23 a23 H24 a24
  refine wi_ HS18 [0, 1, 3] rfl [0, 1, 3, 2] rfl fun HSh26 hx26 => ht_ H25 0 hx26 rfl rfl (fun _ _ _ => xf 1 1 rfl (H25.ev 5 rfl)) fun a27 H27 => ht_ H27 1 hx26 rfl rfl (fun _ _ HS9 => dd_get HS9 2 1 rfl rfl (H27.ev 26 rfl) rfl Tryd.underlying43 rfl) fun a28 H28 => hp_ H28 2 hx26 rfl rfl rfl fun a29 H29 => hp_ H29 3 hx26 rfl rfl rfl fun a30 H30 => ht_ H30 4 hx26 rfl rfl (v := .int .i64 5) (fun _ _ _ => dd_ari rfl rfl (H30.ev 29 rfl) rfl (by decide)) fun a31 H31 => ht_ H31 5 hx26 rfl rfl (fun _ _ _ => xA 9 1 5 rfl (H31.ev 1 rfl) (H31.ev 30 rfl)) fun a32 H32 => ht_ H32 6 hx26 rfl rfl (fun _ _ HS9 => dd_get HS9 0 5 rfl rfl (H32.ev 31 rfl) (bs_get hq 5 (by decide)) Tryd.underlying5 rfl) fun a33 H33 => ?_
  clear HS18 H25 a25 H27 a27 H28 a28 H29 a29 H30 a30 H31 a31
  refine ht_ H33 7 hx26 rfl rfl (v := .int .i64 (bd (q.getD 5 0#8))) (fun _ _ _ => dd_conv (k := .i64) rfl (H33.ev 32 rfl) Tryd.underlying5 (by kernel_rfl) (i64_bdA _)) fun a34 H34 => ht_ H34 8 hx26 rfl rfl (fun _ _ _ => xS 1 0 rfl (H34.ev 27 rfl) (H34.ev 28 rfl)) fun a35 H35 => h1_ 9 rfl <| t_ rfl (fun _ h => dd_put (cs := #[.int .i64 (bd (q.getD 5 0#8)), .int .i64 0, .int .i64 0, .int .i64 0]) HSh26 2 0 rfl rfl (H35.ev 34 rfl) (H35.ev 33 rfl) (by kernel_rfl) rfl rfl rfl rfl h) fun W36 HS36 => sx_ (sxi HS36 [0, 1, 3, 2] rfl) fun hx37 => ?_
  clear H32 a32 H33 a33 H34 a34 HSh26 hx26
  refine wpAnyH_done (by kernel_rfl) ?_ _
  clear hx37
  refine bn <| nx <| rl_ <| wl_ <| i_ H35 rfl (v := .int .i64 1) (dd_ari rfl (H35.ev 23 rfl) rfl rfl (by decide)) fun a38 H38 => wl_ <| p_ H38 rfl rfl fun a39 H39 => ln_ <| nx <| unr_go <| sq_ <| rl_ <| wl_ <| i_ H39 rfl (dd_cmp rfl (H39.ev 23 rfl) (H39.ev 22 rfl) (lt_t (by decide))) fun a40 H40 => ln_ <| nx <| sq_ <| ct_ H40 rfl <| wp_skip <| nx <| sq_ <| wp_block <| sq_ <| rl_ <| q_ H40 2 rfl fun a41 H41 => ln_ <| nx <| ?_
  clear H35 a35 H38 a38 H39 a39 H40 a40
  refine wi_ HS36 [0, 1, 3] rfl [0, 1, 3, 2] rfl fun HSh42 hx42 => ht_ H41 0 hx42 rfl rfl (fun _ _ _ => xf 1 1 rfl (H41.ev 5 rfl)) fun a43 H43 => ht_ H43 1 hx42 rfl rfl (fun _ _ HS9 => dd_get HS9 2 1 rfl rfl (H43.ev 26 rfl) rfl Tryd.underlying43 rfl) fun a44 H44 => hp_ H44 2 hx42 rfl rfl rfl fun a45 H45 => hp_ H45 3 hx42 rfl rfl rfl fun a46 H46 => ht_ H46 4 hx42 rfl rfl (v := .int .i64 6) (fun _ _ _ => dd_ari rfl rfl (H46.ev 29 rfl) rfl (by decide)) fun a47 H47 => ht_ H47 5 hx42 rfl rfl (fun _ _ _ => xA 9 1 6 rfl (H47.ev 1 rfl) (H47.ev 30 rfl)) fun a48 H48 => ht_ H48 6 hx42 rfl rfl (fun _ _ HS9 => dd_get HS9 0 6 rfl rfl (H48.ev 31 rfl) (bs_get hq 6 (by decide)) Tryd.underlying5 rfl) fun a49 H49 => ?_
  clear HS36 H41 a41 H43 a43 H44 a44 H45 a45 H46 a46 H47 a47
  refine ht_ H49 7 hx42 rfl rfl (v := .int .i64 (bd (q.getD 6 0#8))) (fun _ _ _ => dd_conv (k := .i64) rfl (H49.ev 32 rfl) Tryd.underlying5 (by kernel_rfl) (i64_bdA _)) fun a50 H50 => ht_ H50 8 hx42 rfl rfl (fun _ _ _ => xS 1 1 rfl (H50.ev 27 rfl) (H50.ev 28 rfl)) fun a51 H51 => h1_ 9 rfl <| t_ rfl (fun _ h => dd_put (cs := #[.int .i64 (bd (q.getD 5 0#8)), .int .i64 (bd (q.getD 6 0#8)), .int .i64 0, .int .i64 0]) HSh42 2 1 rfl rfl (H51.ev 34 rfl) (H51.ev 33 rfl) (by kernel_rfl) rfl rfl rfl rfl h) fun W52 HS52 => sx_ (sxi HS52 [0, 1, 3, 2] rfl) fun hx53 => ?_
  clear H48 a48 H49 a49 H50 a50 HSh42 hx42
  refine wpAnyH_done (by kernel_rfl) ?_ _
  clear hx53
  refine bn <| nx <| rl_ <| wl_ <| i_ H51 rfl (v := .int .i64 2) (dd_ari rfl (H51.ev 23 rfl) rfl rfl (by decide)) fun a54 H54 => wl_ <| p_ H54 rfl rfl fun a55 H55 => ln_ <| nx <| unr_go <| sq_ <| rl_ <| wl_ <| i_ H55 rfl (dd_cmp rfl (H55.ev 23 rfl) (H55.ev 22 rfl) (lt_t (by decide))) fun a56 H56 => ln_ <| nx <| sq_ <| ct_ H56 rfl <| wp_skip <| nx <| sq_ <| wp_block <| sq_ <| rl_ <| q_ H56 2 rfl fun a57 H57 => ln_ <| nx <| ?_
  clear H51 a51 H54 a54 H55 a55 H56 a56
  refine wi_ HS52 [0, 1, 3] rfl [0, 1, 3, 2] rfl fun HSh58 hx58 => ht_ H57 0 hx58 rfl rfl (fun _ _ _ => xf 1 1 rfl (H57.ev 5 rfl)) fun a59 H59 => ht_ H59 1 hx58 rfl rfl (fun _ _ HS9 => dd_get HS9 2 1 rfl rfl (H59.ev 26 rfl) rfl Tryd.underlying43 rfl) fun a60 H60 => hp_ H60 2 hx58 rfl rfl rfl fun a61 H61 => hp_ H61 3 hx58 rfl rfl rfl fun a62 H62 => ht_ H62 4 hx58 rfl rfl (v := .int .i64 7) (fun _ _ _ => dd_ari rfl rfl (H62.ev 29 rfl) rfl (by decide)) fun a63 H63 => ht_ H63 5 hx58 rfl rfl (fun _ _ _ => xA 9 1 7 rfl (H63.ev 1 rfl) (H63.ev 30 rfl)) fun a64 H64 => ht_ H64 6 hx58 rfl rfl (fun _ _ HS9 => dd_get HS9 0 7 rfl rfl (H64.ev 31 rfl) (bs_get hq 7 (by decide)) Tryd.underlying5 rfl) fun a65 H65 => ?_
  clear HS52 H57 a57 H59 a59 H60 a60 H61 a61 H62 a62 H63 a63
  refine ht_ H65 7 hx58 rfl rfl (v := .int .i64 (bd (q.getD 7 0#8))) (fun _ _ _ => dd_conv (k := .i64) rfl (H65.ev 32 rfl) Tryd.underlying5 (by kernel_rfl) (i64_bdA _)) fun a66 H66 => ht_ H66 8 hx58 rfl rfl (fun _ _ _ => xS 1 2 rfl (H66.ev 27 rfl) (H66.ev 28 rfl)) fun a67 H67 => h1_ 9 rfl <| t_ rfl (fun _ h => dd_put (cs := #[.int .i64 (bd (q.getD 5 0#8)), .int .i64 (bd (q.getD 6 0#8)), .int .i64 (bd (q.getD 7 0#8)), .int .i64 0]) HSh58 2 2 rfl rfl (H67.ev 34 rfl) (H67.ev 33 rfl) (by kernel_rfl) rfl rfl rfl rfl h) fun W68 HS68 => sx_ (sxi HS68 [0, 1, 3, 2] rfl) fun hx69 => ?_
  clear H64 a64 H65 a65 H66 a66 HSh58 hx58
  refine wpAnyH_done (by kernel_rfl) ?_ _
  clear hx69
  refine bn <| nx <| rl_ <| wl_ <| i_ H67 rfl (v := .int .i64 3) (dd_ari rfl (H67.ev 23 rfl) rfl rfl (by decide)) fun a70 H70 => wl_ <| p_ H70 rfl rfl fun a71 H71 => ln_ <| nx <| unr_go <| sq_ <| rl_ <| wl_ <| i_ H71 rfl (dd_cmp rfl (H71.ev 23 rfl) (H71.ev 22 rfl) (lt_t (by decide))) fun a72 H72 => ln_ <| nx <| sq_ <| ct_ H72 rfl <| wp_skip <| nx <| sq_ <| wp_block <| sq_ <| rl_ <| q_ H72 2 rfl fun a73 H73 => ln_ <| nx <| ?_
  clear H67 a67 H70 a70 H71 a71 H72 a72
  refine wi_ HS68 [0, 1, 3] rfl [0, 1, 3, 2] rfl fun HSh74 hx74 => ht_ H73 0 hx74 rfl rfl (fun _ _ _ => xf 1 1 rfl (H73.ev 5 rfl)) fun a75 H75 => ht_ H75 1 hx74 rfl rfl (fun _ _ HS9 => dd_get HS9 2 1 rfl rfl (H75.ev 26 rfl) rfl Tryd.underlying43 rfl) fun a76 H76 => hp_ H76 2 hx74 rfl rfl rfl fun a77 H77 => hp_ H77 3 hx74 rfl rfl rfl fun a78 H78 => ht_ H78 4 hx74 rfl rfl (v := .int .i64 8) (fun _ _ _ => dd_ari rfl rfl (H78.ev 29 rfl) rfl (by decide)) fun a79 H79 => ht_ H79 5 hx74 rfl rfl (fun _ _ _ => xA 9 1 8 rfl (H79.ev 1 rfl) (H79.ev 30 rfl)) fun a80 H80 => ht_ H80 6 hx74 rfl rfl (fun _ _ HS9 => dd_get HS9 0 8 rfl rfl (H80.ev 31 rfl) (bs_get hq 8 (by decide)) Tryd.underlying5 rfl) fun a81 H81 => ?_
  clear HS68 H73 a73 H75 a75 H76 a76 H77 a77 H78 a78 H79 a79
  refine ht_ H81 7 hx74 rfl rfl (v := .int .i64 (bd (q.getD 8 0#8))) (fun _ _ _ => dd_conv (k := .i64) rfl (H81.ev 32 rfl) Tryd.underlying5 (by kernel_rfl) (i64_bdA _)) fun a82 H82 => ht_ H82 8 hx74 rfl rfl (fun _ _ _ => xS 1 3 rfl (H82.ev 27 rfl) (H82.ev 28 rfl)) fun a83 H83 => h1_ 9 rfl <| t_ rfl (fun _ h => dd_put (cs := #[.int .i64 (bd (q.getD 5 0#8)), .int .i64 (bd (q.getD 6 0#8)), .int .i64 (bd (q.getD 7 0#8)), .int .i64 (bd (q.getD 8 0#8))]) HSh74 2 3 rfl rfl (H83.ev 34 rfl) (H83.ev 33 rfl) (by kernel_rfl) rfl rfl rfl rfl h) fun W84 HS84 => sx_ (sxi HS84 [0, 1, 3, 2] rfl) fun hx85 => ?_
  clear H80 a80 H81 a81 H82 a82 HSh74 hx74
  refine wpAnyH_done (by kernel_rfl) ?_ _
  clear hx85
  refine bn <| nx <| rl_ <| wl_ <| i_ H83 rfl (v := .int .i64 4) (dd_ari rfl (H83.ev 23 rfl) rfl rfl (by decide)) fun a86 H86 => wl_ <| p_ H86 rfl rfl fun a87 H87 => ln_ <| nx <| unr_go <| sq_ <| rl_ <| wl_ <| i_ H87 rfl (dd_cmp rfl (H87.ev 23 rfl) (H87.ev 22 rfl) (lt_f (by decide))) fun a88 H88 => ln_ <| nx <| sq_ <| cf_ H88 rfl <| wp_exit <| tx <| tx <| bx <| nx <| sq_ <| rl_ <| wl_ <| i_ H88 rfl (v := .agg #[.string (strB (cutN (q.take 4)).1), .slice (some ⟨g18, 0, none⟩) 4 4]) (dd_load HS84 3 0 rfl rfl (H88.ev 5 rfl) (slab_whole _) Tryd.underlying45 rfl (by kernel_rfl)) fun a89 H89 => wl_ <| t_ rfl (fun _ h => dd_setrow HS84 1 rfl rfl (H89.ev 2 rfl) (H89.ev 36 rfl) (by kernel_rfl) (rfl : #[.string (strB (cutN (q.take 4)).1), .slice (some ⟨g18, 0, none⟩) 4 4].size = 2) (rfl : #[.string (⟨#[]⟩), .slice none 0 0].size = 2) (one_l (ao_cons rfl (ao_cons rfl ao_nil))) h) fun W90 HS90 => ln_ <| ?_
  clear H83 a83 H86 a86 H87 a87 H88 a88 HS84
  have H91 := H89.sel [2] rfl
  refine nx <| wp_ret <| ret_run H91.env0 (res_c Tryd.results21 (H91.get 2 rfl) (HS90.row 1 rfl) Tryd.underlying45 rfl (by kernel_rfl)) <| ?_
  clear H89
  refine ⟨g18, ?_, st_fresh HS90 2 rfl, ?_, HS90.below⟩
  · rw [hL.1]; rfl
  · rw [hL.2]; exact HS90.row 2 rfl
theorem frombytes_any (q : List (BitVec 8)) (w : World) (hq : q.length = 9) :
    Calls Tryd.prog 21 #[.agg (bs q)] w fun e w' => ∃ g, e = .returned (.agg #[.string (strB (volQ q).1), .slice (some ⟨g, 0, none⟩) (fromL q).length (fromL q).length]) ∧ w.heap.size ≤ g ∧ Row w' g 3 (intsV (fromL q)).toArray ∧ Below w.heap.size w w' := by
  have hb := bd_lo (q.getD 4 0#8)
  by_cases h : (4 : Int) < bd (q.getD 4 0#8)
  · exact frombytes5 q w hq h
  have e : q.getD 4 0#8 = BitVec.ofInt 8 (bd (q.getD 4 0#8)) := bd_inj (bd_of _ hb (by omega))
  rcases (by omega : bd (q.getD 4 0#8) = 0 ∨ bd (q.getD 4 0#8) = 1 ∨ bd (q.getD 4 0#8) = 2 ∨ bd (q.getD 4 0#8) = 3 ∨ bd (q.getD 4 0#8) = 4) with h | h | h | h | h <;> rw [h] at e
  · exact frombytes0 q w hq e
  · exact frombytes1 q w hq e
  · exact frombytes2 q w hq e
  · exact frombytes3 q w hq e
  · exact frombytes4 q w hq e
end Go.Proofs.YtpmedgibnnonkaaDoor

/- May volumes be: the program's. -/
set_option maxRecDepth 4000
namespace Go.Proofs.YtpmedgibnnonkaaDoor
open Go Go.RowKit
theorem find_any (A : Option Addr) (n c : Nat) (q : List (BitVec 8)) (l : List Tv) (w : World) (hv : VolsAt w (.slice A n c) (volL l)) (hn : n ≤ 1000000) :
    Calls Tryd.prog 17 #[.string (strB q), .slice A n c] w fun e w' => e = .returned (.int .i64 (findI q l)) ∧ Below w.heap.size w w' := by
  by_cases h0 : n = 0
  · subst h0
    have hln : l.length = 0 := by rw [← len_volL]; exact vols_len hv
    have HS := St.nil w noF
    refine enter_en Tryd.func17 rfl Tryd.ntmps17 (Nat.le_of_ble_eq_true rfl) fun a0 (HA0 : En 20 [(0, .string (strB q)), (1, .slice A 0 c)] a0) => ?_
    refine sq_ <| rl_ <| wl_ <| p_ HA0 rfl rfl fun a1 H1 => ln_ <| nx <| sq_ <| sq_ <| rl_ <| wl_ <| p_ H1 rfl rfl fun a2 H2 => wl_ <| i_ H2 rfl (v := .int .i64 0) (dd_len rfl (H2.ev 7 rfl) Tryd.underlying22) fun a3 H3 => wl_ <| p_ H3 rfl rfl fun a4 H4 => ln_ <| nx <| wp_block <| wp_unr 1 <| unr_go <| sq_ <| rl_ <| wl_ <| i_ H4 rfl (dd_cmp rfl (H4.ev 9 rfl) (H4.ev 8 rfl) (lt_f (by decide))) fun a5 H5 => ln_ <| nx <| sq_ <| cf_ H5 rfl <| wp_exit <| tx <| tx <| bx <| nx <| sq_ <| rl_ <| wl_ <| p_ H5 rfl rfl fun a6 H6 => ln_ <| nx <| wp_ret <| ret_run H6.env0 (res_t Tryd.results17 (H6.get 4 rfl)) <| ?_
    clear HA0 a0 H1 a1 H2 a2 H3 a3 H4 a4 H5 a5
    exact ⟨by rw [findI_none (fun j hj => absurd hj (by omega))], HS.below⟩
  · obtain ⟨b, o, rfl⟩ := vols_some hv (by omega)
    exact find_pos b o n c q l w hv hn
/- may volumes be -/
def okT (l : List Tv) (i : Nat) (x : Tv) : Bool := goodN x.1 && (decide (findI x.1 l = (i : Int)) && (decide (1 ≤ x.2.length) && decide (x.2.length ≤ 4)))
def sumT (l : List Tv) : Nat := (l.map (·.2.length)).sum
def freeT (l : List Tv) : Nat := (freeL (usedV (volL l))).length
def goodT (l : List Tv) : Bool := decide (l.length ≤ 3) && (l.zipIdx.all (fun x => okT l x.2 x.1) && decide ((11 : Int) - (freeT l : Int) = (sumT l : Int)))
theorem goodT_long {l : List Tv} (h : 3 < l.length) : goodT l = false := by unfold goodT; rw [decide_eq_false (by omega)]; rfl
theorem goodT_no {l : List Tv} {k : Nat} {x : Tv} (hk : l[k]? = some x) (h : okT l k x = false) : goodT l = false := by
  have : l.zipIdx.all (fun x => okT l x.2 x.1) = false := by
    rw [List.all_eq_false]
    exact ⟨(x, k), List.mk_mem_zipIdx_iff_getElem?.2 hk, by simp [h]⟩
  unfold goodT
  rw [this]; simp
theorem goodT_is {l : List Tv} (h1 : l.length ≤ 3) (h2 : ∀ j, j < l.length → ∀ x, l[j]? = some x → okT l j x = true) {b : Bool} (h3 : decide ((11 : Int) - (freeT l : Int) = (sumT l : Int)) = b) : goodT l = b := by
  have : l.zipIdx.all (fun x => okT l x.2 x.1) = true := by
    rw [List.all_eq_true]
    rintro ⟨x, j⟩ hx
    have hj := List.mk_mem_zipIdx_iff_getElem?.1 hx
    exact h2 j (List.getElem?_eq_some_iff.1 hj).1 x hj
  unfold goodT
  rw [this, decide_eq_true h1, h3]; rfl
theorem goodT_parts {l : List Tv} (h : goodT l = true) : l.length ≤ 3 ∧ (∀ j x, l[j]? = some x → okT l j x = true) ∧ (11 : Int) - (freeT l : Int) = (sumT l : Int) := by
  unfold goodT at h
  simp only [Bool.and_eq_true, decide_eq_true_eq, List.all_eq_true] at h
  exact ⟨h.1, fun j x hj => h.2.1 (x, j) (List.mk_mem_zipIdx_iff_getElem?.2 hj), h.2.2⟩
theorem okT_parts {l : List Tv} {i : Nat} {x : Tv} (h : okT l i x = true) : goodN x.1 = true ∧ findI x.1 l = i ∧ 1 ≤ x.2.length ∧ x.2.length ≤ 4 := by
  unfold okT at h
  simp only [Bool.and_eq_true, decide_eq_true_eq] at h
  exact ⟨h.1, h.2.1, h.2.2.1, h.2.2.2⟩
theorem okT_of {l : List Tv} {i : Nat} {x : Tv} (h1 : goodN x.1 = true) (h2 : findI x.1 l = i) (h3 : 1 ≤ x.2.length) (h4 : x.2.length ≤ 4) : okT l i x = true := by
  unfold okT
  simp only [Bool.and_eq_true, decide_eq_true_eq]
  exact ⟨h1, h2, h3, h4⟩
theorem okT_no {l : List Tv} {i : Nat} {x : Tv} (h : ¬ (goodN x.1 = true ∧ findI x.1 l = i ∧ 1 ≤ x.2.length ∧ x.2.length ≤ 4)) : okT l i x = false := by
  cases hk : okT l i x with
  | false => rfl
  | true => exact (h (okT_parts hk)).elim
theorem sumT_succ {l : List Tv} {k : Nat} {x : Tv} (h : l[k]? = some x) : sumT (l.take (k + 1)) = sumT (l.take k) + x.2.length := by
  unfold sumT
  rw [List.take_add_one, h]
  simp
theorem step_ok {l : List Tv} {k : Nat} {x : Tv} (h : ∀ j, j < k → ∀ x, l[j]? = some x → okT l j x = true) (hg : l[k]? = some x) (hx : okT l k x = true) : ∀ j, j < k + 1 → ∀ x, l[j]? = some x → okT l j x = true := fun j hj y hy => by
  by_cases hjk : j = k
  · subst hjk
    rw [hg] at hy
    injection hy with hy
    subst hy
    exact hx
  · exact h j (by omega) y hy
theorem vols_lenB {l : List Tv} (h : ∀ x ∈ l, x.2.length ≤ 1000000) : ∀ x ∈ volL l, x.2.length ≤ 1000000 := fun x hx => by
  obtain ⟨y, hy, rfl⟩ := List.mem_map.1 hx
  exact h y hy
theorem freeT_le (l : List Tv) : freeT l ≤ 12 := by
  unfold freeT freeL
  rw [List.length_map]
  exact Nat.le_trans (List.length_filter_le _ _) (by simp)
theorem goodNs_oneT (q : List (BitVec 8)) : goodNs [q] = goodN q := by unfold goodNs; simp
theorem free_nil : ((freeL (usedV [])).length : Int) = 11 := by decide
set_option maxHeartbeats 1600000 in
theorem goodt_pos (b o n c : Nat) (l : List Tv) (w : World) (hv : VolsAt w (.slice (some ⟨b, o, none⟩) n c) (volL l)) (hn : n ≤ 1000000) (hml : ∀ x ∈ l, x.2.length ≤ 1000000) :
    Calls Tryd.prog 14 #[.slice (some ⟨b, o, none⟩) n c] w fun e w' => e = .returned (.bool (goodT l)) ∧ Below w.heap.size w w' := by
  have HS := St.nil w noF
  have HV : ∀ W, Below w.heap.size w W → VolsAt W (.slice (some ⟨b, o, none⟩) n c) (volL l) := fun W hb => hv.below hb (Nat.le_refl _)
  have hln : l.length = n := by rw [← len_volL]; exact vols_len hv
  have hfT := freeT_le l
  refine enter_en Tryd.func14 rfl Tryd.ntmps14 (Nat.le_of_ble_eq_true rfl) fun a0 (HA0 : En 51 [(0, .slice (some ⟨b, o, none⟩) n c)] a0) => ?_
  refine sq_ <| rl_ <| wl_ <| p_ HA0 rfl rfl fun a1 H1 => ln_ <| nx <| sq_ <| sq_ <| rl_ <| wl_ <| p_ H1 rfl rfl fun a2 H2 => wl_ <| i_ H2 rfl (v := .int .i64 n) (dd_len rfl (H2.ev 6 rfl) Tryd.underlying22) fun a3 H3 => ?_
  clear HA0 a0 H1 a1 H2 a2
  by_cases hc5 : (3 : Int) < n
  ·
   refine wl_ <| i_ H3 rfl (dd_cmp rfl (H3.ev 7 rfl) rfl (gt_t hc5)) fun a6 H6 => ln_ <| nx <| ct_ H6 rfl <| sq_ <| rl_ <| wl_ <| p_ H6 rfl rfl fun a7 H7 => ln_ <| nx <| wp_ret <| tr <| ret_run H7.env0 (res_t Tryd.results14 (H7.get 2 rfl)) <| ?_
   clear H3 a3 H6 a6
   exact ⟨by rw [goodT_long (by omega)], HS.below⟩
  ·
   refine wl_ <| i_ H3 rfl (dd_cmp rfl (H3.ev 7 rfl) rfl (gt_f hc5)) fun a8 H8 => ln_ <| nx <| cf_ H8 rfl <| wp_skip <| nx <| sq_ <| rl_ <| wl_ <| p_ H8 rfl rfl fun a9 H9 => ln_ <| nx <| sq_ <| sq_ <| rl_ <| wl_ <| p_ H9 rfl rfl fun a10 H10 => wl_ <| i_ H10 rfl (v := .int .i64 n) (dd_len rfl (H10.ev 9 rfl) Tryd.underlying22) fun a11 H11 => wl_ <| p_ H11 rfl rfl fun a12 H12 => ln_ <| nx <| wp_block <| ?_
   clear H3 a3 H8 a8 H9 a9 H10 a10 H11 a11
   refine wp_loopG (ι := Nat) (fun k a9 w9 => ∃ sb : Int, (k ≤ n) ∧ (∀ j, j < k → ∀ x, l[j]? = some x → okT l j x = true) ∧ (sb = (sumT (l.take k) : Int)) ∧ (0 ≤ sb ∧ sb ≤ 4 * (k : Nat)) ∧ En 51 [(11, .int .i64 k), (10, .int .i64 n), (9, .slice (some ⟨b, o, none⟩) n c), (3, .int .i64 sb), (0, .slice (some ⟨b, o, none⟩) n c)] a9 ∧ St w noF [] w9) (fun k => n - k) (0) ⟨0, Nat.zero_le _, (fun j hj => absurd hj (Nat.not_lt_zero _)), rfl, (by omega), H12.sel [0, 3, 9, 10, 11] rfl, ss HS []⟩ ?_
   clear H12 a12 HS
   rintro k aL13 wL13 ⟨sb, hk, hok, hsb, hsb2, HL13, HSL13⟩
   refine sq_ <| rl_ <| ?_
   by_cases hc15 : (k : Int) < n
   ·
    refine wl_ <| i_ HL13 rfl (dd_cmp rfl (HL13.ev 11 rfl) (HL13.ev 10 rfl) (lt_t hc15)) fun a16 H16 => ln_ <| nx <| sq_ <| ct_ H16 rfl <| wp_skip <| nx <| sq_ <| wp_block <| sq_ <| rl_ <| wl_ <| p_ H16 rfl rfl fun a17 H17 => wl_ <| i_ H17 rfl (xSo 2 (o + k * 2) rfl (H17.ev 9 rfl) (H17.ev 11 rfl)) fun a18 H18 => ?_
    clear HL13 aL13 H16 a16 H17 a17
    obtain ⟨p20, L20, B20, m20, c20, hg20, hr20, hi20, hm20, hp20⟩ := vols_getB (HV _ HSL13.below) (k := k) (by omega)
    refine wl_ <| i_ H18 rfl (v := .agg #[.string (strB p20), .slice B20 m20 c20]) (dd_atN rfl (H18.ev 14 rfl) hr20 Tryd.underlying45 rfl (by kernel_rfl)) fun a19 H19 => wl_ <| n_ H19 rfl (fun _ h => dd_new HSL13 #[.string (⟨#[]⟩), .slice none 0 0] rfl (z := .agg #[.string (⟨#[]⟩), .slice none 0 0]) (by kernel_rfl) rfl h) fun g5 W21 HS21 a21 H21 => wl_ <| p_ H21 rfl rfl fun a22 H22 => wl_ <| t_ rfl (fun _ h => dd_setrow HS21 0 rfl rfl (H22.ev 5 rfl) (H22.ev 15 rfl) (by kernel_rfl) (rfl : #[.string (strB p20), .slice B20 m20 c20].size = 2) (rfl : #[.string (⟨#[]⟩), .slice none 0 0].size = 2) (one_l (ao_cons rfl (ao_cons rfl ao_nil))) h) fun W23 HS23 => ln_ <| nx <| sq_ <| sq_ <| rl_ <| wl_ <| i_ H22 rfl (xf 0 0 rfl (H22.ev 5 rfl)) fun a24 H24 => wl_ <| i_ H24 rfl (dd_get HS23 0 0 rfl rfl (H24.ev 16 rfl) rfl Tryd.underlying9 rfl) fun a25 H25 => wl_ <| n_ H25 rfl (fun _ h => dd_lits HS23 #[.string (strB p20)] rfl (ps := [(0, .string (strB p20))]) (pr1 (H25.ev 17 rfl) (pr0)) (z := .string (⟨#[]⟩)) (sz := 1) Tryd.underlying60 (by kernel_rfl) rfl rfl (by kernel_rfl) h) fun g18 W26 HS26 a26 H26 => ?_
    clear H18 a18 HSL13 H19 a19 H21 a21 HS21 H22 a22 H24 a24 HS23 H25 a25
    cases hb28 : goodN p20
    case false =>
     refine wl_ <| c_ H26 rfl HS26 (v := .bool false) (dc_ Tryd.func23 rfl (args1 (H26.ev 18 rfl)) (good_any [p20] _ W26 (strs_row (HS26.row 1 rfl) hp20) (by unfold maxLen; simp)) (fun _ w9 h9 => ⟨_, h9.1, by rw [goodNs_oneT, hb28], h9.2⟩)) fun W29 HS29 a29 H29 => wl_ <| i_ H29 rfl (v := .bool true) (dd_nt rfl (H29.ev 19 rfl) rfl) fun a30 H30 => wl_ <| p_ H30 rfl rfl fun a31 H31 => wl_ <| k_ H31 (wg_ H31 rfl rfl rfl rfl) rfl fun a32 H32 => wl_ <| k_ H32 (wg_ H32 rfl rfl rfl rfl) rfl fun a33 H33 => wl_ <| k_ H33 (wg_ H33 rfl rfl rfl rfl) rfl fun a34 H34 => wl_ <| k_ H34 (wg_ H34 rfl rfl rfl rfl) rfl fun a35 H35 => wl_ <| k_ H35 (wg_ H35 rfl rfl rfl rfl) rfl fun a36 H36 => ?_
     clear H26 a26 HS26 H29 a29 H30 a30 H31 a31 H32 a32 H33 a33 H34 a34
     refine wl_ <| k_ H36 (wg_ H36 rfl rfl rfl rfl) rfl fun a37 H37 => wl_ <| p_ H37 rfl rfl fun a38 H38 => ln_ <| ?_
     clear H35 a35 H36 a36 H37 a37
     have H39 := H38.sel [0, 3, 9, 10, 11, 5, 28] rfl
     refine nx <| ct_ H39 rfl <| sq_ <| rl_ <| wl_ <| p_ H39 rfl rfl fun a40 H40 => ln_ <| nx <| wp_ret <| tr <| br_ <| tr <| tr <| br_ <| tr <| ret_run H40.env0 (res_t Tryd.results14 (H40.get 2 rfl)) <| ?_
     clear H38 H39 a38
     exact ⟨by rw [goodT_no hg20 (okT_no (fun h => by rw [hb28] at h; cases h.1))], HS29.below⟩
    case true =>
     refine wl_ <| c_ H26 rfl HS26 (v := .bool true) (dc_ Tryd.func23 rfl (args1 (H26.ev 18 rfl)) (good_any [p20] _ W26 (strs_row (HS26.row 1 rfl) hp20) (by unfold maxLen; simp)) (fun _ w9 h9 => ⟨_, h9.1, by rw [goodNs_oneT, hb28], h9.2⟩)) fun W41 HS41 a41 H41 => wl_ <| i_ H41 rfl (v := .bool false) (dd_nt rfl (H41.ev 19 rfl) rfl) fun a42 H42 => wl_ <| p_ H42 rfl rfl fun a43 H43 => wl_ <| ig H43 (wg_ H43 rfl rfl rfl rfl) rfl (xf 0 0 rfl (H43.ev 5 rfl)) fun a44 H44 => wl_ <| ig H44 (wg_ H44 rfl rfl rfl rfl) rfl (dd_get HS41 0 0 rfl rfl (H44.ev 22 rfl) rfl Tryd.underlying9 rfl) fun a45 H45 => wl_ <| ig H45 (wg_ H45 rfl rfl rfl rfl) rfl (dd_mv rfl (H45.ev 0 rfl)) fun a46 H46 => wl_ <| cg H46 (wg_ H46 rfl rfl rfl rfl) rfl HS41 (dcs Tryd.func17 rfl (args2 (H46.ev 23 rfl) (H46.ev 24 rfl)) (find_any _ _ _ p20 l W41 (HV _ HS41.below) hn) (.int .i64 (findI p20 l))) fun W47 HS47 a47 H47 => wl_ <| ig H47 (wg_ H47 rfl rfl rfl rfl) rfl (dd_mv rfl (H47.ev 4 rfl)) fun a48 H48 => ?_
     clear H26 a26 HS26 H41 a41 H42 a42 H43 a43 H44 a44 H45 a45 H46 a46 HS41
     clear H47 a47
     by_cases hc50 : (findI p20 l : Int) = k
     ·
      refine wl_ <| ig H48 (wg_ H48 rfl rfl rfl rfl) rfl (dd_cmp rfl (H48.ev 25 rfl) (H48.ev 26 rfl) (ne_f hc50)) fun a51 H51 => wl_ <| p_ H51 rfl rfl fun a52 H52 => ln_ <| ?_
      clear H48 a48 H51 a51
      have H53 := H52.sel [0, 3, 9, 10, 11, 5, 28] rfl
      refine nx <| cf_ H53 rfl <| wp_skip <| nx <| sq_ <| sq_ <| rl_ <| wl_ <| i_ H53 rfl (xf 1 1 rfl (H53.ev 5 rfl)) fun a54 H54 => wl_ <| i_ H54 rfl (dd_get HS47 0 1 rfl rfl (H54.ev 29 rfl) rfl Tryd.underlying43 rfl) fun a55 H55 => wl_ <| i_ H55 rfl (v := .int .i64 m20) (dd_len rfl (H55.ev 30 rfl) Tryd.underlying43) fun a56 H56 => ?_
      clear H52 H53 a52 H54 a54 H55 a55
      by_cases hc58 : (m20 : Int) < 1
      ·
       refine wl_ <| i_ H56 rfl (dd_cmp rfl (H56.ev 31 rfl) rfl (lt_t hc58)) fun a59 H59 => wl_ <| p_ H59 rfl rfl fun a60 H60 => wl_ <| k_ H60 (wg_ H60 rfl rfl rfl rfl) rfl fun a61 H61 => wl_ <| k_ H61 (wg_ H61 rfl rfl rfl rfl) rfl fun a62 H62 => wl_ <| k_ H62 (wg_ H62 rfl rfl rfl rfl) rfl fun a63 H63 => wl_ <| k_ H63 (wg_ H63 rfl rfl rfl rfl) rfl fun a64 H64 => wl_ <| p_ H64 rfl rfl fun a65 H65 => ln_ <| nx <| ct_ H65 rfl <| sq_ <| rl_ <| wl_ <| p_ H65 rfl rfl fun a66 H66 => ?_
       clear H56 a56 H59 a59 H60 a60 H61 a61 H62 a62 H63 a63 H64 a64
       refine ln_ <| ?_
       clear H65 a65
       have H67 := H66.sel [2] rfl
       refine nx <| wp_ret <| tr <| br_ <| tr <| tr <| br_ <| tr <| ret_run H67.env0 (res_t Tryd.results14 (H67.get 2 rfl)) <| ?_
       clear H66
       exact ⟨by rw [goodT_no hg20 (okT_no (fun h => by obtain ⟨h1, h2, h3, h4⟩ := h; simp only at h1 h2 h3 h4; omega))], HS47.below⟩
      ·
       refine wl_ <| i_ H56 rfl (dd_cmp rfl (H56.ev 31 rfl) rfl (lt_f hc58)) fun a68 H68 => wl_ <| p_ H68 rfl rfl fun a69 H69 => wl_ <| ig H69 (wg_ H69 rfl rfl rfl rfl) rfl (xf 1 1 rfl (H69.ev 5 rfl)) fun a70 H70 => wl_ <| ig H70 (wg_ H70 rfl rfl rfl rfl) rfl (dd_get HS47 0 1 rfl rfl (H70.ev 34 rfl) rfl Tryd.underlying43 rfl) fun a71 H71 => wl_ <| ig H71 (wg_ H71 rfl rfl rfl rfl) rfl (v := .int .i64 m20) (dd_len rfl (H71.ev 35 rfl) Tryd.underlying43) fun a72 H72 => ?_
       clear H56 a56 H68 a68 H69 a69 H70 a70 H71 a71
       by_cases hc74 : (4 : Int) < m20
       ·
        refine wl_ <| ig H72 (wg_ H72 rfl rfl rfl rfl) rfl (dd_cmp rfl (H72.ev 36 rfl) rfl (gt_t hc74)) fun a75 H75 => wl_ <| p_ H75 rfl rfl fun a76 H76 => ln_ <| nx <| ct_ H76 rfl <| sq_ <| rl_ <| wl_ <| p_ H76 rfl rfl fun a77 H77 => ln_ <| ?_
        clear H72 a72 H75 a75 H76 a76
        have H78 := H77.sel [2] rfl
        refine nx <| wp_ret <| tr <| br_ <| tr <| tr <| br_ <| tr <| ret_run H78.env0 (res_t Tryd.results14 (H78.get 2 rfl)) <| ?_
        clear H77
        exact ⟨by rw [goodT_no hg20 (okT_no (fun h => by obtain ⟨h1, h2, h3, h4⟩ := h; simp only at h1 h2 h3 h4; omega))], HS47.below⟩
       ·
        refine wl_ <| ig H72 (wg_ H72 rfl rfl rfl rfl) rfl (dd_cmp rfl (H72.ev 36 rfl) rfl (gt_f hc74)) fun a79 H79 => wl_ <| p_ H79 rfl rfl fun a80 H80 => ln_ <| nx <| cf_ H80 rfl <| wp_skip <| nx <| rl_ <| wl_ <| p_ H80 rfl rfl fun a81 H81 => wl_ <| i_ H81 rfl (xf 1 1 rfl (H81.ev 5 rfl)) fun a82 H82 => wl_ <| i_ H82 rfl (dd_get HS47 0 1 rfl rfl (H82.ev 40 rfl) rfl Tryd.underlying43 rfl) fun a83 H83 => wl_ <| i_ H83 rfl (v := .int .i64 m20) (dd_len rfl (H83.ev 41 rfl) Tryd.underlying43) fun a84 H84 => wl_ <| i_ H84 rfl (v := .int .i64 (sb + m20)) (dd_ari rfl (H84.ev 39 rfl) (H84.ev 42 rfl) rfl (i64_of (by first | omega | (have := bd_lo; omega)) (by omega))) fun a85 H85 => wl_ <| p_ H85 rfl rfl fun a86 H86 => ?_
        clear H72 a72 H79 a79 H80 a80 H81 a81 H82 a82 H83 a83 H84 a84
        refine ln_ <| ?_
        clear H85 a85
        have H87 := H86.sel [0, 9, 10, 11, 3] rfl
        refine bn <| nx <| rl_ <| wl_ <| i_ H87 rfl (v := .int .i64 (k + 1)) (dd_ari rfl (H87.ev 11 rfl) rfl rfl (i64_of (by first | omega | (have := bd_lo; omega)) (by omega))) fun a88 H88 => wl_ <| p_ H88 rfl rfl fun a89 H89 => ln_ <| ?_
        clear H86 H87 a86 H88 a88
        refine nx ⟨k + 1, ⟨(sb + m20), (by omega), (step_ok hok hg20 (okT_of hb28 hc50 (by simp only; omega) (by simp only; omega))), (by rw [sumT_succ hg20, hsb]; simp only [hm20]; omega), (by omega), H89.sel [0, 3, 9, 10, 11] rfl, ss HS47 []⟩, (by omega)⟩
     ·
      refine wl_ <| ig H48 (wg_ H48 rfl rfl rfl rfl) rfl (dd_cmp rfl (H48.ev 25 rfl) (H48.ev 26 rfl) (ne_t hc50)) fun a90 H90 => wl_ <| p_ H90 rfl rfl fun a91 H91 => ln_ <| ?_
      clear H48 a48 H90 a90
      have H92 := H91.sel [0, 3, 9, 10, 11, 5, 28] rfl
      refine nx <| ct_ H92 rfl <| sq_ <| rl_ <| wl_ <| p_ H92 rfl rfl fun a93 H93 => ln_ <| nx <| wp_ret <| tr <| br_ <| tr <| tr <| br_ <| tr <| ret_run H93.env0 (res_t Tryd.results14 (H93.get 2 rfl)) <| ?_
      clear H91 H92 a91
      exact ⟨by rw [goodT_no hg20 (okT_no (fun h => by obtain ⟨h1, h2, h3, h4⟩ := h; simp only at h1 h2 h3 h4; omega))], HS47.below⟩
   ·
    refine wl_ <| i_ HL13 rfl (dd_cmp rfl (HL13.ev 11 rfl) (HL13.ev 10 rfl) (lt_f hc15)) fun a94 H94 => ln_ <| nx <| sq_ <| cf_ H94 rfl <| wp_exit <| tx <| tx <| bx <| nx <| sq_ <| rl_ <| ?_
    clear HL13 aL13
    have hsumT : (sumT l : Int) = sb := by rw [hsb, List.take_of_length_le (by omega)]
    refine wl_ <| c_ H94 rfl HSL13 (v := .int .i64 11) (dc_ Tryd.func24 rfl (args1 rfl) (free_any none 0 0 [] wL13 (vols_none _) (by decide) (fun x h => by cases h)) (fun _ w9 h9 => ⟨_, h9.1, by rw [free_nil], h9.2⟩)) fun W95 HS95 a95 H95 => wl_ <| p_ H95 rfl rfl fun a96 H96 => wl_ <| c_ H96 rfl HS95 (dcs Tryd.func24 rfl (args1 (H96.ev 46 rfl)) (free_any _ _ _ _ W95 (HV _ HS95.below) hn (vols_lenB hml)) (.int .i64 (freeT l))) fun W97 HS97 a97 H97 => wl_ <| i_ H97 rfl (v := .int .i64 (11 - (freeT l))) (dd_ari rfl (H97.ev 45 rfl) (H97.ev 47 rfl) rfl (i64_of (by first | omega | (have := bd_lo; omega)) (by omega))) fun a98 H98 => wl_ <| p_ H98 rfl rfl fun a99 H99 => ?_
    clear H94 a94 HSL13 H95 a95 H96 a96 HS95 H97 a97 H98 a98
    by_cases hc101 : (11 - (freeT l) : Int) = sb
    ·
     refine wl_ <| i_ H99 rfl (dd_cmp rfl (H99.ev 48 rfl) (H99.ev 49 rfl) (eq_t hc101)) fun a102 H102 => wl_ <| p_ H102 rfl rfl fun a103 H103 => ln_ <| nx <| wp_ret <| ret_run H103.env0 (res_t Tryd.results14 (H103.get 2 rfl)) <| ?_
     clear H99 a99 H102 a102
     exact ⟨by rw [goodT_is (b := true) (by omega) (fun j hj => hok j (by omega)) (by rw [hsumT]; exact decide_eq_true hc101)], HS97.below⟩
    ·
     refine wl_ <| i_ H99 rfl (dd_cmp rfl (H99.ev 48 rfl) (H99.ev 49 rfl) (eq_f hc101)) fun a104 H104 => wl_ <| p_ H104 rfl rfl fun a105 H105 => ln_ <| nx <| wp_ret <| ret_run H105.env0 (res_t Tryd.results14 (H105.get 2 rfl)) <| ?_
     clear H99 a99 H104 a104
     exact ⟨by rw [goodT_is (b := false) (by omega) (fun j hj => hok j (by omega)) (by rw [hsumT]; exact decide_eq_false hc101)], HS97.below⟩
set_option maxHeartbeats 1600000 in
theorem goodt_zero (A : Option Addr) (c : Nat) (l : List Tv) (w : World) (hv : VolsAt w (.slice A 0 c) (volL l)) (hml : ∀ x ∈ l, x.2.length ≤ 1000000) :
    Calls Tryd.prog 14 #[.slice A 0 c] w fun e w' => e = .returned (.bool (goodT l)) ∧ Below w.heap.size w w' := by
  have HS := St.nil w noF
  have HV : ∀ W, Below w.heap.size w W → VolsAt W (.slice A 0 c) (volL l) := fun W hb => hv.below hb (Nat.le_refl _)
  have hn : 0 ≤ 1000000 := by decide
  have hfT := freeT_le l
  have hln : l.length = 0 := by rw [← len_volL]; exact vols_len hv
  have hok : ∀ j, j < l.length → ∀ x, l[j]? = some x → okT l j x = true := fun j hj => absurd hj (by omega)
  have hsumT : (sumT l : Int) = 0 := by rw [List.length_eq_zero_iff.1 hln]; rfl
  refine enter_en Tryd.func14 rfl Tryd.ntmps14 (Nat.le_of_ble_eq_true rfl) fun a0 (HA0 : En 51 [(0, .slice A 0 c)] a0) => ?_
  refine sq_ <| rl_ <| wl_ <| p_ HA0 rfl rfl fun a1 H1 => ln_ <| nx <| sq_ <| sq_ <| rl_ <| wl_ <| p_ H1 rfl rfl fun a2 H2 => wl_ <| i_ H2 rfl (v := .int .i64 0) (dd_len rfl (H2.ev 6 rfl) Tryd.underlying22) fun a3 H3 => wl_ <| i_ H3 rfl (dd_cmp rfl (H3.ev 7 rfl) rfl (gt_f (by decide))) fun a4 H4 => ln_ <| nx <| cf_ H4 rfl <| wp_skip <| nx <| sq_ <| rl_ <| wl_ <| p_ H4 rfl rfl fun a5 H5 => ln_ <| nx <| sq_ <| sq_ <| rl_ <| wl_ <| p_ H5 rfl rfl fun a6 H6 => wl_ <| i_ H6 rfl (v := .int .i64 0) (dd_len rfl (H6.ev 9 rfl) Tryd.underlying22) fun a7 H7 => wl_ <| p_ H7 rfl rfl fun a8 H8 => ?_
  clear HA0 a0 H1 a1 H2 a2 H3 a3 H4 a4 H5 a5 H6 a6
  refine ln_ <| nx <| wp_block <| wp_unr 1 <| unr_go <| sq_ <| rl_ <| wl_ <| i_ H8 rfl (dd_cmp rfl (H8.ev 11 rfl) (H8.ev 10 rfl) (lt_f (by decide))) fun a9 H9 => ln_ <| nx <| sq_ <| cf_ H9 rfl <| wp_exit <| tx <| tx <| bx <| nx <| sq_ <| rl_ <| wl_ <| c_ H9 rfl HS (v := .int .i64 11) (dc_ Tryd.func24 rfl (args1 rfl) (free_any none 0 0 [] w (vols_none _) (by decide) (fun x h => by cases h)) (fun _ w9 h9 => ⟨_, h9.1, by rw [free_nil], h9.2⟩)) fun W10 HS10 a10 H10 => wl_ <| p_ H10 rfl rfl fun a11 H11 => wl_ <| c_ H11 rfl HS10 (dcs Tryd.func24 rfl (args1 (H11.ev 46 rfl)) (free_any _ _ _ _ W10 (HV _ HS10.below) hn (vols_lenB hml)) (.int .i64 (freeT l))) fun W12 HS12 a12 H12 => wl_ <| i_ H12 rfl (v := .int .i64 (11 - (freeT l))) (dd_ari rfl (H12.ev 45 rfl) (H12.ev 47 rfl) rfl (i64_of (by first | omega | (have := bd_lo; omega)) (by omega))) fun a13 H13 => wl_ <| p_ H13 rfl rfl fun a14 H14 => ?_
  clear H7 a7 H8 a8 H9 a9 HS H10 a10 H11 a11 HS10 H12 a12 H13 a13
  by_cases hc16 : (11 - (freeT l) : Int) = 0
  ·
   refine wl_ <| i_ H14 rfl (dd_cmp rfl (H14.ev 48 rfl) (H14.ev 49 rfl) (eq_t hc16)) fun a17 H17 => wl_ <| p_ H17 rfl rfl fun a18 H18 => ln_ <| nx <| wp_ret <| ret_run H18.env0 (res_t Tryd.results14 (H18.get 2 rfl)) <| ?_
   clear H14 a14 H17 a17
   exact ⟨by rw [goodT_is (b := true) (by omega) (fun j hj => hok j (by omega)) (by rw [hsumT]; exact decide_eq_true hc16)], HS12.below⟩
  ·
   refine wl_ <| i_ H14 rfl (dd_cmp rfl (H14.ev 48 rfl) (H14.ev 49 rfl) (eq_f hc16)) fun a19 H19 => wl_ <| p_ H19 rfl rfl fun a20 H20 => ln_ <| nx <| wp_ret <| ret_run H20.env0 (res_t Tryd.results14 (H20.get 2 rfl)) <| ?_
   clear H14 a14 H19 a19
   exact ⟨by rw [goodT_is (b := false) (by omega) (fun j hj => hok j (by omega)) (by rw [hsumT]; exact decide_eq_false hc16)], HS12.below⟩
theorem goodt_any (A : Option Addr) (n c : Nat) (l : List Tv) (w : World) (hv : VolsAt w (.slice A n c) (volL l)) (hn : n ≤ 1000000) (hml : ∀ x ∈ l, x.2.length ≤ 1000000) :
    Calls Tryd.prog 14 #[.slice A n c] w fun e w' => e = .returned (.bool (goodT l)) ∧ Below w.heap.size w w' := by
  by_cases h0 : n = 0
  · subst h0; exact goodt_zero A c l w hv hml
  · obtain ⟨b, o, rfl⟩ := vols_some hv (by omega)
    exact goodt_pos b o n c l w hv hn hml
end Go.Proofs.YtpmedgibnnonkaaDoor

/- The volumes' block: the program's. -/
set_option maxRecDepth 4000
namespace Go.Proofs.YtpmedgibnnonkaaDoor
open Go Go.RowKit
theorem vols_getC {w : World} {b o n c : Nat} {l : List Tv} (h : VolsAt w (.slice (some ⟨b, o, none⟩) n c) (volL l)) {k : Nat} (hk : k < n) :
    ∃ p L B m c', l[k]? = some (p, L) ∧ (∀ W, Below w.heap.size w W → W.rangeAt b (o + k * 2) [.string (strB p), .slice B m c'] ∧ IntsAt W (.slice B m c') L) ∧ L.length = m ∧ p.length ≤ maxLen := by
  obtain ⟨b', o', s, L, B, m, c', h1, h2, h0, h3, h4, h5, h6⟩ := vols_get h (k := k) (by rw [vols_len h]; exact hk)
  injection h2 with h2
  injection h2 with h2 h7
  subst h2 h7
  obtain ⟨p, h8, rfl⟩ := volL_get h1
  exact ⟨p, L, B, m, c', h8, fun W hb => ⟨fun j v hv => (hb.cell (p := ⟨b, o + k * 2 + j, none⟩) h0).trans (h3 j v hv), h4.below hb (Nat.le_refl _)⟩, h5, by rw [strB_size] at h6; exact h6⟩
/- the volumes' block -/
def encB (l : List Tv) : List (BitVec 8) := [byteI l.length] ++ l.flatMap volE ++ zer (31 - 9 * l.length)
def encT (l : List Tv) : List (BitVec 8) := if goodT l then encB l else zer 32
def encE (l : List Tv) : Int := if goodT l then 0 else 11
theorem len_flatE : ∀ l : List Tv, (l.flatMap volE).length = 9 * l.length
  | [] => rfl
  | x :: l => by rw [List.flatMap_cons, List.length_append, length_volE, len_flatE l, List.length_cons]; omega
theorem length_encB {l : List Tv} (h : l.length ≤ 3) : (encB l).length = 32 := by
  unfold encB; rw [List.length_append, List.length_append, len_flatE, length_zer]; simp only [List.length_cons, List.length_nil]; omega
theorem length_encT (l : List Tv) : (encT l).length = 32 := by
  unfold encT
  split
  · rename_i h; exact length_encB (goodT_parts h).1
  · exact length_zer 32
theorem spl_zer (A E : List (BitVec 8)) (m n o : Nat) (hE : E.length = m) (hA : A.length = o) : spl (A ++ zer (m + n)) o E = (A ++ E) ++ zer n := by
  subst hE hA
  unfold spl
  rw [List.take_left' rfl]
  congr 1
  rw [← List.drop_drop, List.drop_left' rfl]
  unfold zer
  simp
theorem tvs_1 {l : List Tv} {x : Tv} (h : l.length = 1) (h0 : l[0]? = some x) : l = [x] := by
  obtain ⟨a, rfl⟩ := list_1 h
  simp at h0; rw [h0]
theorem tvs_2 {l : List Tv} {x y : Tv} (h : l.length = 2) (h0 : l[0]? = some x) (h1 : l[1]? = some y) : l = [x, y] := by
  obtain ⟨a, b, rfl⟩ := list_2 h
  simp at h0 h1; rw [h0, h1]
theorem tvs_3 {l : List Tv} {x y z : Tv} (h : l.length = 3) (h0 : l[0]? = some x) (h1 : l[1]? = some y) (h2 : l[2]? = some z) : l = [x, y, z] := by
  obtain ⟨a, b, c, rfl⟩ := list_3 h
  simp at h0 h1 h2; rw [h0, h1, h2]
theorem set0 (x : BitVec 8) : (zer 32).set 0 x = [x] ++ zer 31 := rfl
theorem encB_0 : (zer 32).set 0 0#8 = encB [] := rfl
theorem encB_1 (x : Tv) : spl ((zer 32).set 0 1#8) 1 (volE x) = encB [x] := by
  rw [set0, spl_zer [1#8] (volE x) 9 22 1 (length_volE x) rfl]
  unfold encB
  simp [byteI]
theorem encB_2 (x y : Tv) : spl (spl ((zer 32).set 0 2#8) 1 (volE x)) 10 (volE y) = encB [x, y] := by
  rw [set0, spl_zer [2#8] (volE x) 9 22 1 (length_volE x) rfl, spl_zer ([2#8] ++ volE x) (volE y) 9 13 10 (length_volE y) (by rw [List.length_append, length_volE]; rfl)]
  unfold encB
  simp [byteI]
theorem encB_3 (x y z : Tv) : spl (spl (spl ((zer 32).set 0 3#8) 1 (volE x)) 10 (volE y)) 19 (volE z) = encB [x, y, z] := by
  rw [set0, spl_zer [3#8] (volE x) 9 22 1 (length_volE x) rfl, spl_zer ([3#8] ++ volE x) (volE y) 9 13 10 (length_volE y) (by rw [List.length_append, length_volE]; rfl), spl_zer ([3#8] ++ volE x ++ volE y) (volE z) 9 4 19 (length_volE z) (by rw [List.length_append, List.length_append, length_volE, length_volE]; rfl)]
  unfold encB
  simp [byteI]
set_option maxHeartbeats 800000 in
theorem enct_bad (A : Option Addr) (n c : Nat) (l : List Tv) (w : World) (hv : VolsAt w (.slice A n c) (volL l)) (hn : n ≤ 1000000) (hml : ∀ x ∈ l, x.2.length ≤ 1000000) (hG : goodT l = false) :
    Calls Tryd.prog 10 #[.slice A n c] w fun e w' => e = .returned (.tuple #[.agg (bs (encT l)), .int .i64 (encE l)]) ∧ Below w.heap.size w w' := by
  have HS := St.nil w noF
  refine enter_en Tryd.func10 rfl Tryd.ntmps10 (Nat.le_of_ble_eq_true rfl) fun a0 (HA0 : En 33 [(0, .slice A n c)] a0) => ?_
  refine sq_ <| rl_ <| wl_ <| n_ HA0 rfl (fun _ h => dd_new HS (bs (zer 32)) rfl (z := .agg (bs (zer 32))) (by kernel_rfl) rfl h) fun g2 W1 HS1 a1 H1 => wl_ <| p_ H1 rfl rfl fun a2 H2 => ln_ <| nx <| sq_ <| sq_ <| rl_ <| wl_ <| p_ H2 rfl rfl fun a3 H3 => wl_ <| c_ H3 rfl HS1 (v := .bool false) (dc_ Tryd.func14 rfl (args1 (H3.ev 8 rfl)) (goodt_any _ _ _ l W1 (hv.below HS1.below (Nat.le_refl _)) hn hml) (fun _ w9 h9 => ⟨_, h9.1, by rw [hG], h9.2⟩)) fun W4 HS4 a4 H4 => wl_ <| i_ H4 rfl (v := .bool true) (dd_nt rfl (H4.ev 9 rfl) rfl) fun a5 H5 => ln_ <| nx <| ct_ H5 rfl <| sq_ <| rl_ <| wl_ <| i_ H5 rfl (v := .agg (bs (zer 32))) (dd_bldk rfl (ps := []) (pr0) (cs := bs (zer 32)) (by kernel_rfl)) fun a6 H6 => wl_ <| t_ rfl (fun _ h => dd_setrow HS4 0 rfl rfl (H6.ev 2 rfl) (H6.ev 11 rfl) (by kernel_rfl) (((size_bs _).trans (length_zer 32)) : (bs (zer 32)).size = 32) (((size_bs _).trans (length_zer 32)) : (bs (zer 32)).size = 32) (one_bs _) h) fun W7 HS7 => wl_ <| p_ H6 rfl rfl fun a8 H8 => ?_
  clear HS HA0 a0 H1 a1 H2 a2 H3 a3 HS1 H4 a4 H5 a5 HS4
  refine ln_ <| nx <| wp_ret <| tr <| ret_run H8.env0 (res_ct Tryd.results10 (H8.get 2 rfl) (HS7.row 0 rfl) Tryd.underlying24 rfl (by rw [show (bs (zer 32)).size = 32 from ((size_bs _).trans (length_zer 32))]; kernel_rfl) (H8.get 3 rfl)) <| ?_
  clear H6 a6
  exact ⟨by unfold encT encE; rw [hG]; rfl, HS7.below⟩
set_option maxHeartbeats 1600000 in
theorem enct0 (c : Nat) (A : Option Addr) (l : List Tv) (w : World) (hv : VolsAt w (.slice A 0 c) (volL l)) (hml : ∀ x ∈ l, x.2.length ≤ 1000000) (hG : goodT l = true) :
    Calls Tryd.prog 10 #[.slice A 0 c] w fun e w' => e = .returned (.tuple #[.agg (bs (encT l)), .int .i64 (encE l)]) ∧ Below w.heap.size w w' := by
  have HS := St.nil w noF
  have hn : 0 ≤ 1000000 := by decide
  have hln : l.length = 0 := by rw [← len_volL]; exact vols_len hv
  refine enter_en Tryd.func10 rfl Tryd.ntmps10 (Nat.le_of_ble_eq_true rfl) fun a0 (HA0 : En 33 [(0, .slice A 0 c)] a0) => ?_
  refine sq_ <| rl_ <| wl_ <| n_ HA0 rfl (fun _ h => dd_new HS (bs (zer 32)) rfl (z := .agg (bs (zer 32))) (by kernel_rfl) rfl h) fun g2 W1 HS1 a1 H1 => wl_ <| p_ H1 rfl rfl fun a2 H2 => ln_ <| nx <| sq_ <| sq_ <| rl_ <| wl_ <| p_ H2 rfl rfl fun a3 H3 => wl_ <| c_ H3 rfl HS1 (v := .bool true) (dc_ Tryd.func14 rfl (args1 (H3.ev 8 rfl)) (goodt_any _ _ _ l W1 (hv.below HS1.below (Nat.le_refl _)) hn hml) (fun _ w9 h9 => ⟨_, h9.1, by rw [hG], h9.2⟩)) fun W4 HS4 a4 H4 => wl_ <| i_ H4 rfl (v := .bool false) (dd_nt rfl (H4.ev 9 rfl) rfl) fun a5 H5 => ln_ <| nx <| cf_ H5 rfl <| wp_skip <| nx <| sq_ <| rl_ <| wl_ <| n_ H5 rfl (fun _ h => dd_new HS4 (bs (zer 32)) rfl (z := .agg (bs (zer 32))) (by kernel_rfl) rfl h) fun g4 W6 HS6 a6 H6 => ln_ <| nx <| sq_ <| rl_ <| wl_ <| p_ H6 rfl rfl fun a7 H7 => wl_ <| i_ H7 rfl (v := .int .i64 0) (dd_len rfl (H7.ev 12 rfl) Tryd.underlying22) fun a8 H8 => ?_
  clear HS HA0 a0 H1 a1 H2 a2 H3 a3 HS1 H4 a4 HS4 H5 a5 H6 a6
  refine wl_ <| i_ H8 rfl (v := .int .u8 0) (dd_conv (k := .u8) rfl (H8.ev 13 rfl) Tryd.underlying3 (by kernel_rfl) (by decide)) fun a9 H9 => wl_ <| i_ H9 rfl (xA 32 1 0 rfl (H9.ev 4 rfl) rfl) fun a10 H10 => wl_ <| t_ rfl (S := [⟨g2, 24, bs (zer 32)⟩, ⟨g4, 24, bs ((zer 32).set 0 (0#8))⟩]) (fun _ h => dd_put HS6 1 0 rfl rfl (H10.ev 15 rfl) (H10.ev 14 rfl) (by kernel_rfl) rfl rfl (by rw [((size_bs _).trans (length_zer 32))]; rfl) (set_bs _ _ (0#8)) h) fun W11 HS11 => ln_ <| nx <| sq_ <| sq_ <| rl_ <| wl_ <| p_ H10 rfl rfl fun a12 H12 => wl_ <| i_ H12 rfl (v := .int .i64 0) (dd_len rfl (H12.ev 16 rfl) Tryd.underlying22) fun a13 H13 => wl_ <| p_ H13 rfl rfl fun a14 H14 => ln_ <| nx <| wp_block <| wp_unr 1 <| unr_go <| sq_ <| rl_ <| wl_ <| i_ H14 rfl (dd_cmp rfl (H14.ev 18 rfl) (H14.ev 17 rfl) (lt_f (by decide))) fun a15 H15 => ln_ <| nx <| sq_ <| cf_ H15 rfl <| wp_exit <| tx <| tx <| bx <| nx <| sq_ <| rl_ <| wl_ <| i_ H15 rfl (v := .agg (bs ((zer 32).set 0 (0#8)))) (dd_load HS11 1 0 rfl rfl (H15.ev 4 rfl) (slab_whole _) Tryd.underlying24 rfl (by rw [show (bs ((zer 32).set 0 (0#8))).size = 32 from ((size_bs _).trans (len_set (length_zer 32)))]; kernel_rfl)) fun a16 H16 => ?_
  clear H7 a7 H8 a8 H9 a9 HS6 H10 a10 H12 a12 H13 a13 H14 a14
  refine wl_ <| t_ rfl (fun _ h => dd_setrow HS11 0 rfl rfl (H16.ev 2 rfl) (H16.ev 32 rfl) (by kernel_rfl) (((size_bs _).trans (len_set (length_zer 32))) : (bs ((zer 32).set 0 (0#8))).size = 32) (((size_bs _).trans (length_zer 32)) : (bs (zer 32)).size = 32) (one_bs _) h) fun W17 HS17 => wl_ <| p_ H16 rfl rfl fun a18 H18 => ln_ <| nx <| wp_ret <| ret_run H18.env0 (res_ct Tryd.results10 (H18.get 2 rfl) (HS17.row 0 rfl) Tryd.underlying24 rfl (by rw [show (bs ((zer 32).set 0 (0#8))).size = 32 from ((size_bs _).trans (len_set (length_zer 32)))]; kernel_rfl) (H18.get 3 rfl)) <| ?_
  clear H15 a15 HS11 H16 a16
  have hl : l = [] := list_0 hln
  exact ⟨by unfold encT encE; rw [hG, if_pos rfl, if_pos rfl, hl, ← encB_0], HS17.below⟩
set_option maxHeartbeats 1600000 in
theorem enct1 (b o c : Nat) (l : List Tv) (w : World) (hv : VolsAt w (.slice (some ⟨b, o, none⟩) 1 c) (volL l)) (hml : ∀ x ∈ l, x.2.length ≤ 1000000) (hG : goodT l = true) :
    Calls Tryd.prog 10 #[.slice (some ⟨b, o, none⟩) 1 c] w fun e w' => e = .returned (.tuple #[.agg (bs (encT l)), .int .i64 (encE l)]) ∧ Below w.heap.size w w' := by
  have HS := St.nil w noF
  have hn : 1 ≤ 1000000 := by decide
  have hln : l.length = 1 := by rw [← len_volL]; exact vols_len hv
  refine enter_en Tryd.func10 rfl Tryd.ntmps10 (Nat.le_of_ble_eq_true rfl) fun a0 (HA0 : En 33 [(0, .slice (some ⟨b, o, none⟩) 1 c)] a0) => ?_
  refine sq_ <| rl_ <| wl_ <| n_ HA0 rfl (fun _ h => dd_new HS (bs (zer 32)) rfl (z := .agg (bs (zer 32))) (by kernel_rfl) rfl h) fun g2 W1 HS1 a1 H1 => wl_ <| p_ H1 rfl rfl fun a2 H2 => ln_ <| nx <| sq_ <| sq_ <| rl_ <| wl_ <| p_ H2 rfl rfl fun a3 H3 => wl_ <| c_ H3 rfl HS1 (v := .bool true) (dc_ Tryd.func14 rfl (args1 (H3.ev 8 rfl)) (goodt_any _ _ _ l W1 (hv.below HS1.below (Nat.le_refl _)) hn hml) (fun _ w9 h9 => ⟨_, h9.1, by rw [hG], h9.2⟩)) fun W4 HS4 a4 H4 => wl_ <| i_ H4 rfl (v := .bool false) (dd_nt rfl (H4.ev 9 rfl) rfl) fun a5 H5 => ln_ <| nx <| cf_ H5 rfl <| wp_skip <| nx <| sq_ <| rl_ <| wl_ <| n_ H5 rfl (fun _ h => dd_new HS4 (bs (zer 32)) rfl (z := .agg (bs (zer 32))) (by kernel_rfl) rfl h) fun g4 W6 HS6 a6 H6 => ln_ <| nx <| sq_ <| rl_ <| wl_ <| p_ H6 rfl rfl fun a7 H7 => wl_ <| i_ H7 rfl (v := .int .i64 1) (dd_len rfl (H7.ev 12 rfl) Tryd.underlying22) fun a8 H8 => ?_
  clear HS HA0 a0 H1 a1 H2 a2 H3 a3 HS1 H4 a4 HS4 H5 a5 H6 a6
  refine wl_ <| i_ H8 rfl (v := .int .u8 1) (dd_conv (k := .u8) rfl (H8.ev 13 rfl) Tryd.underlying3 (by kernel_rfl) (by decide)) fun a9 H9 => wl_ <| i_ H9 rfl (xA 32 1 0 rfl (H9.ev 4 rfl) rfl) fun a10 H10 => wl_ <| t_ rfl (S := [⟨g2, 24, bs (zer 32)⟩, ⟨g4, 24, bs ((zer 32).set 0 (1#8))⟩]) (fun _ h => dd_put HS6 1 0 rfl rfl (H10.ev 15 rfl) (H10.ev 14 rfl) (by kernel_rfl) rfl rfl (by rw [((size_bs _).trans (length_zer 32))]; rfl) (set_bs _ _ (1#8)) h) fun W11 HS11 => ln_ <| nx <| sq_ <| sq_ <| rl_ <| wl_ <| p_ H10 rfl rfl fun a12 H12 => wl_ <| i_ H12 rfl (v := .int .i64 1) (dd_len rfl (H12.ev 16 rfl) Tryd.underlying22) fun a13 H13 => wl_ <| p_ H13 rfl rfl fun a14 H14 => ln_ <| nx <| wp_block <| wp_unr 2 <| unr_go <| sq_ <| rl_ <| wl_ <| i_ H14 rfl (dd_cmp rfl (H14.ev 18 rfl) (H14.ev 17 rfl) (lt_t (by decide))) fun a15 H15 => ln_ <| nx <| sq_ <| ct_ H15 rfl <| wp_skip <| nx <| sq_ <| wp_block <| sq_ <| rl_ <| wl_ <| p_ H15 rfl rfl fun a16 H16 => ?_
  clear H7 a7 H8 a8 H9 a9 HS6 H10 a10 H12 a12 H13 a13 H14 a14
  refine wl_ <| i_ H16 rfl (xS 2 (o + 0) rfl (H16.ev 16 rfl) (H16.ev 18 rfl)) fun a17 H17 => ?_
  clear H15 a15 H16 a16
  obtain ⟨p19, L19, B19, m19, c19, hg19, hr19, hm19, hp19⟩ := vols_getC hv (k := 0) (by decide)
  refine wl_ <| i_ H17 rfl (v := .agg #[.string (strB p19), .slice B19 m19 c19]) (dd_atN rfl (H17.ev 21 rfl) (hr19 _ HS11.below).1 Tryd.underlying45 rfl (by kernel_rfl)) fun a18 H18 => wl_ <| n_ H18 rfl (fun _ h => dd_new HS11 #[.string (⟨#[]⟩), .slice none 0 0] rfl (z := .agg #[.string (⟨#[]⟩), .slice none 0 0]) (by kernel_rfl) rfl h) fun g6 W20 HS20 a20 H20 => wl_ <| p_ H20 rfl rfl fun a21 H21 => wl_ <| t_ rfl (fun _ h => dd_setrow HS20 2 rfl rfl (H21.ev 6 rfl) (H21.ev 22 rfl) (by kernel_rfl) (rfl : #[.string (strB p19), .slice B19 m19 c19].size = 2) (rfl : #[.string (⟨#[]⟩), .slice none 0 0].size = 2) (one_l (ao_cons rfl (ao_cons rfl ao_nil))) h) fun W22 HS22 => ln_ <| nx <| sq_ <| rl_ <| wl_ <| i_ H21 rfl (v := .agg #[.string (strB p19), .slice B19 m19 c19]) (dd_load HS22 2 0 rfl rfl (H21.ev 6 rfl) (slab_whole _) Tryd.underlying45 rfl (by kernel_rfl)) fun a23 H23 => wl_ <| c_ H23 rfl HS22 (dcs Tryd.func19 rfl (args1 (H23.ev 23 rfl)) (tobytes_any _ _ _ p19 L19 W22 (hr19 _ HS22.below).2 (by have h9 := okT_parts ((goodT_parts hG).2.1 _ _ hg19); simp only at h9; omega)) (.agg (bs (volE (p19, L19))))) fun W24 HS24 a24 H24 => wl_ <| n_ H24 rfl (fun _ h => dd_new HS24 (bs (zer 9)) rfl (z := .agg (bs (zer 9))) (by kernel_rfl) rfl h) fun g7 W25 HS25 a25 H25 => wl_ <| t_ rfl (fun _ h => dd_setrow HS25 3 rfl rfl (H25.ev 7 rfl) (H25.ev 24 rfl) (by kernel_rfl) (((size_bs _).trans (length_volE _)) : (bs (volE (p19, L19))).size = 9) (((size_bs _).trans (length_zer 9)) : (bs (zer 9)).size = 9) (one_bs _) h) fun W26 HS26 => ?_
  clear H17 a17 HS11 H18 a18 H20 a20 HS20 H21 a21 H23 a23 HS22 HS24 H24 a24
  refine ln_ <| ?_
  clear HS25
  have H27 := H25.sel [2, 4, 16, 17, 18, 5, 7] rfl
  refine nx <| ?_
  clear H25
  refine wi_ HS26 [0, 2, 3] rfl [0, 2, 3, 1] rfl fun HSh28 hx28 => hp_ H27 0 hx28 rfl rfl rfl fun a29 H29 => ht_ H29 1 hx28 rfl rfl (v := .int .i64 0) (fun _ _ _ => dd_ari rfl (H29.ev 25 rfl) rfl rfl (by decide)) fun a30 H30 => ht_ H30 2 hx28 rfl rfl (v := .int .i64 1) (fun _ _ _ => dd_ari rfl rfl (H30.ev 26 rfl) rfl (by decide)) fun a31 H31 => ht_ H31 3 hx28 rfl rfl (v := .slice (some ⟨g4, 1, none⟩) 31 31) (fun _ _ _ => dd_slAl (l := 1) (n := 32) (sz := 1) (j := 1) rfl (H31.ev 4 rfl) (H31.ev 27 rfl) (by kernel_rfl) (by decide) rfl rfl) fun a32 H32 => ht_ H32 4 hx28 rfl rfl (v := .slice (some ⟨g7, 0, none⟩) 9 9) (fun _ _ _ => dd_slA (n := 9) (sz := 1) rfl (H32.ev 7 rfl) (by kernel_rfl)) fun a33 H33 => h1_ 5 rfl <| tv H33 rfl (S := [⟨g2, 24, bs (zer 32)⟩, ⟨g4, 24, bs (spl ((zer 32).set 0 (1#8)) 1 (volE (p19, L19)))⟩, ⟨g6, 45, #[.string (strB p19), .slice B19 m19 c19]⟩, ⟨g7, 47, bs (volE (p19, L19))⟩]) (v := .int .i64 9) (fun _ h => dd_copyR HSh28 1 rfl (len_set (length_zer 32)) rfl (H33.ev 28 rfl) (H33.ev 29 rfl) (slice_part (HSh28.row 3 rfl) 0 (bytes_slab (slab_whole _)) (length_volE _) (by decide)) (length_volE _) (by decide) (by decide) h) fun W34 HS34 a34 H34 => sx_ (sxi HS34 [0, 2, 3, 1] rfl) fun hx35 => ?_
  clear HS26 H27 a25 H29 a29 H30 a30 H31 a31 H32 a32 HSh28 H33 a33
  clear hx28
  refine wpAnyH_done (by kernel_rfl) ?_ _
  clear hx35
  refine bn <| nx <| rl_ <| wl_ <| i_ H34 rfl (v := .int .i64 1) (dd_ari rfl (H34.ev 18 rfl) rfl rfl (by decide)) fun a36 H36 => wl_ <| p_ H36 rfl rfl fun a37 H37 => ln_ <| nx <| unr_go <| sq_ <| rl_ <| wl_ <| i_ H37 rfl (dd_cmp rfl (H37.ev 18 rfl) (H37.ev 17 rfl) (lt_f (by decide))) fun a38 H38 => ln_ <| nx <| sq_ <| cf_ H38 rfl <| wp_exit <| tx <| tx <| bx <| nx <| sq_ <| rl_ <| wl_ <| i_ H38 rfl (v := .agg (bs (spl ((zer 32).set 0 (1#8)) 1 (volE (p19, L19))))) (dd_load HS34 1 0 rfl rfl (H38.ev 4 rfl) (slab_whole _) Tryd.underlying24 rfl (by rw [show (bs (spl ((zer 32).set 0 (1#8)) 1 (volE (p19, L19)))).size = 32 from ((size_bs _).trans (len_spl (len_set (length_zer 32)) (length_volE _) (by decide)))]; kernel_rfl)) fun a39 H39 => wl_ <| t_ rfl (fun _ h => dd_setrow HS34 0 rfl rfl (H39.ev 2 rfl) (H39.ev 32 rfl) (by kernel_rfl) (((size_bs _).trans (len_spl (len_set (length_zer 32)) (length_volE _) (by decide))) : (bs (spl ((zer 32).set 0 (1#8)) 1 (volE (p19, L19)))).size = 32) (((size_bs _).trans (length_zer 32)) : (bs (zer 32)).size = 32) (one_bs _) h) fun W40 HS40 => wl_ <| p_ H39 rfl rfl fun a41 H41 => ln_ <| nx <| wp_ret <| ret_run H41.env0 (res_ct Tryd.results10 (H41.get 2 rfl) (HS40.row 0 rfl) Tryd.underlying24 rfl (by rw [show (bs (spl ((zer 32).set 0 (1#8)) 1 (volE (p19, L19)))).size = 32 from ((size_bs _).trans (len_spl (len_set (length_zer 32)) (length_volE _) (by decide)))]; kernel_rfl) (H41.get 3 rfl)) <| ?_
  clear H34 a34 H36 a36 H37 a37 H38 a38 HS34 H39 a39
  have hl : l = [(p19, L19)] := tvs_1 hln hg19
  exact ⟨by unfold encT encE; rw [hG, if_pos rfl, if_pos rfl, hl, ← encB_1], HS40.below⟩
set_option maxHeartbeats 1600000 in
theorem enct2 (b o c : Nat) (l : List Tv) (w : World) (hv : VolsAt w (.slice (some ⟨b, o, none⟩) 2 c) (volL l)) (hml : ∀ x ∈ l, x.2.length ≤ 1000000) (hG : goodT l = true) :
    Calls Tryd.prog 10 #[.slice (some ⟨b, o, none⟩) 2 c] w fun e w' => e = .returned (.tuple #[.agg (bs (encT l)), .int .i64 (encE l)]) ∧ Below w.heap.size w w' := by
  have HS := St.nil w noF
  have hn : 2 ≤ 1000000 := by decide
  have hln : l.length = 2 := by rw [← len_volL]; exact vols_len hv
  refine enter_en Tryd.func10 rfl Tryd.ntmps10 (Nat.le_of_ble_eq_true rfl) fun a0 (HA0 : En 33 [(0, .slice (some ⟨b, o, none⟩) 2 c)] a0) => ?_
  refine sq_ <| rl_ <| wl_ <| n_ HA0 rfl (fun _ h => dd_new HS (bs (zer 32)) rfl (z := .agg (bs (zer 32))) (by kernel_rfl) rfl h) fun g2 W1 HS1 a1 H1 => wl_ <| p_ H1 rfl rfl fun a2 H2 => ln_ <| nx <| sq_ <| sq_ <| rl_ <| wl_ <| p_ H2 rfl rfl fun a3 H3 => wl_ <| c_ H3 rfl HS1 (v := .bool true) (dc_ Tryd.func14 rfl (args1 (H3.ev 8 rfl)) (goodt_any _ _ _ l W1 (hv.below HS1.below (Nat.le_refl _)) hn hml) (fun _ w9 h9 => ⟨_, h9.1, by rw [hG], h9.2⟩)) fun W4 HS4 a4 H4 => wl_ <| i_ H4 rfl (v := .bool false) (dd_nt rfl (H4.ev 9 rfl) rfl) fun a5 H5 => ln_ <| nx <| cf_ H5 rfl <| wp_skip <| nx <| sq_ <| rl_ <| wl_ <| n_ H5 rfl (fun _ h => dd_new HS4 (bs (zer 32)) rfl (z := .agg (bs (zer 32))) (by kernel_rfl) rfl h) fun g4 W6 HS6 a6 H6 => ln_ <| nx <| sq_ <| rl_ <| wl_ <| p_ H6 rfl rfl fun a7 H7 => wl_ <| i_ H7 rfl (v := .int .i64 2) (dd_len rfl (H7.ev 12 rfl) Tryd.underlying22) fun a8 H8 => ?_
  clear HS HA0 a0 H1 a1 H2 a2 H3 a3 HS1 H4 a4 HS4 H5 a5 H6 a6
  refine wl_ <| i_ H8 rfl (v := .int .u8 2) (dd_conv (k := .u8) rfl (H8.ev 13 rfl) Tryd.underlying3 (by kernel_rfl) (by decide)) fun a9 H9 => wl_ <| i_ H9 rfl (xA 32 1 0 rfl (H9.ev 4 rfl) rfl) fun a10 H10 => wl_ <| t_ rfl (S := [⟨g2, 24, bs (zer 32)⟩, ⟨g4, 24, bs ((zer 32).set 0 (2#8))⟩]) (fun _ h => dd_put HS6 1 0 rfl rfl (H10.ev 15 rfl) (H10.ev 14 rfl) (by kernel_rfl) rfl rfl (by rw [((size_bs _).trans (length_zer 32))]; rfl) (set_bs _ _ (2#8)) h) fun W11 HS11 => ln_ <| nx <| sq_ <| sq_ <| rl_ <| wl_ <| p_ H10 rfl rfl fun a12 H12 => wl_ <| i_ H12 rfl (v := .int .i64 2) (dd_len rfl (H12.ev 16 rfl) Tryd.underlying22) fun a13 H13 => wl_ <| p_ H13 rfl rfl fun a14 H14 => ln_ <| nx <| wp_block <| wp_unr 3 <| unr_go <| sq_ <| rl_ <| wl_ <| i_ H14 rfl (dd_cmp rfl (H14.ev 18 rfl) (H14.ev 17 rfl) (lt_t (by decide))) fun a15 H15 => ln_ <| nx <| sq_ <| ct_ H15 rfl <| wp_skip <| nx <| sq_ <| wp_block <| sq_ <| rl_ <| wl_ <| p_ H15 rfl rfl fun a16 H16 => ?_
  clear H7 a7 H8 a8 H9 a9 HS6 H10 a10 H12 a12 H13 a13 H14 a14
  refine wl_ <| i_ H16 rfl (xS 2 (o + 0) rfl (H16.ev 16 rfl) (H16.ev 18 rfl)) fun a17 H17 => ?_
  clear H15 a15 H16 a16
  obtain ⟨p19, L19, B19, m19, c19, hg19, hr19, hm19, hp19⟩ := vols_getC hv (k := 0) (by decide)
  refine wl_ <| i_ H17 rfl (v := .agg #[.string (strB p19), .slice B19 m19 c19]) (dd_atN rfl (H17.ev 21 rfl) (hr19 _ HS11.below).1 Tryd.underlying45 rfl (by kernel_rfl)) fun a18 H18 => wl_ <| n_ H18 rfl (fun _ h => dd_new HS11 #[.string (⟨#[]⟩), .slice none 0 0] rfl (z := .agg #[.string (⟨#[]⟩), .slice none 0 0]) (by kernel_rfl) rfl h) fun g6 W20 HS20 a20 H20 => wl_ <| p_ H20 rfl rfl fun a21 H21 => wl_ <| t_ rfl (fun _ h => dd_setrow HS20 2 rfl rfl (H21.ev 6 rfl) (H21.ev 22 rfl) (by kernel_rfl) (rfl : #[.string (strB p19), .slice B19 m19 c19].size = 2) (rfl : #[.string (⟨#[]⟩), .slice none 0 0].size = 2) (one_l (ao_cons rfl (ao_cons rfl ao_nil))) h) fun W22 HS22 => ln_ <| nx <| sq_ <| rl_ <| wl_ <| i_ H21 rfl (v := .agg #[.string (strB p19), .slice B19 m19 c19]) (dd_load HS22 2 0 rfl rfl (H21.ev 6 rfl) (slab_whole _) Tryd.underlying45 rfl (by kernel_rfl)) fun a23 H23 => wl_ <| c_ H23 rfl HS22 (dcs Tryd.func19 rfl (args1 (H23.ev 23 rfl)) (tobytes_any _ _ _ p19 L19 W22 (hr19 _ HS22.below).2 (by have h9 := okT_parts ((goodT_parts hG).2.1 _ _ hg19); simp only at h9; omega)) (.agg (bs (volE (p19, L19))))) fun W24 HS24 a24 H24 => wl_ <| n_ H24 rfl (fun _ h => dd_new HS24 (bs (zer 9)) rfl (z := .agg (bs (zer 9))) (by kernel_rfl) rfl h) fun g7 W25 HS25 a25 H25 => wl_ <| t_ rfl (fun _ h => dd_setrow HS25 3 rfl rfl (H25.ev 7 rfl) (H25.ev 24 rfl) (by kernel_rfl) (((size_bs _).trans (length_volE _)) : (bs (volE (p19, L19))).size = 9) (((size_bs _).trans (length_zer 9)) : (bs (zer 9)).size = 9) (one_bs _) h) fun W26 HS26 => ?_
  clear H17 a17 HS11 H18 a18 H20 a20 HS20 H21 a21 H23 a23 HS22 HS24 H24 a24
  refine ln_ <| ?_
  clear HS25
  have H27 := H25.sel [2, 4, 16, 17, 18, 5, 7] rfl
  refine nx <| ?_
  clear H25
  refine wi_ HS26 [0, 2, 3] rfl [0, 2, 3, 1] rfl fun HSh28 hx28 => hp_ H27 0 hx28 rfl rfl rfl fun a29 H29 => ht_ H29 1 hx28 rfl rfl (v := .int .i64 0) (fun _ _ _ => dd_ari rfl (H29.ev 25 rfl) rfl rfl (by decide)) fun a30 H30 => ht_ H30 2 hx28 rfl rfl (v := .int .i64 1) (fun _ _ _ => dd_ari rfl rfl (H30.ev 26 rfl) rfl (by decide)) fun a31 H31 => ht_ H31 3 hx28 rfl rfl (v := .slice (some ⟨g4, 1, none⟩) 31 31) (fun _ _ _ => dd_slAl (l := 1) (n := 32) (sz := 1) (j := 1) rfl (H31.ev 4 rfl) (H31.ev 27 rfl) (by kernel_rfl) (by decide) rfl rfl) fun a32 H32 => ht_ H32 4 hx28 rfl rfl (v := .slice (some ⟨g7, 0, none⟩) 9 9) (fun _ _ _ => dd_slA (n := 9) (sz := 1) rfl (H32.ev 7 rfl) (by kernel_rfl)) fun a33 H33 => h1_ 5 rfl <| tv H33 rfl (S := [⟨g2, 24, bs (zer 32)⟩, ⟨g4, 24, bs (spl ((zer 32).set 0 (2#8)) 1 (volE (p19, L19)))⟩, ⟨g6, 45, #[.string (strB p19), .slice B19 m19 c19]⟩, ⟨g7, 47, bs (volE (p19, L19))⟩]) (v := .int .i64 9) (fun _ h => dd_copyR HSh28 1 rfl (len_set (length_zer 32)) rfl (H33.ev 28 rfl) (H33.ev 29 rfl) (slice_part (HSh28.row 3 rfl) 0 (bytes_slab (slab_whole _)) (length_volE _) (by decide)) (length_volE _) (by decide) (by decide) h) fun W34 HS34 a34 H34 => sx_ (sxi HS34 [0, 2, 3, 1] rfl) fun hx35 => ?_
  clear HS26 H27 a25 H29 a29 H30 a30 H31 a31 H32 a32 HSh28 H33 a33
  clear hx28
  refine wpAnyH_done (by kernel_rfl) ?_ _
  clear hx35
  refine bn <| nx <| rl_ <| wl_ <| i_ H34 rfl (v := .int .i64 1) (dd_ari rfl (H34.ev 18 rfl) rfl rfl (by decide)) fun a36 H36 => wl_ <| p_ H36 rfl rfl fun a37 H37 => ln_ <| nx <| unr_go <| sq_ <| rl_ <| wl_ <| i_ H37 rfl (dd_cmp rfl (H37.ev 18 rfl) (H37.ev 17 rfl) (lt_t (by decide))) fun a38 H38 => ln_ <| nx <| sq_ <| ct_ H38 rfl <| wp_skip <| nx <| sq_ <| wp_block <| sq_ <| rl_ <| wl_ <| p_ H38 rfl rfl fun a39 H39 => wl_ <| i_ H39 rfl (xS 2 (o + 2) rfl (H39.ev 16 rfl) (H39.ev 18 rfl)) fun a40 H40 => ?_
  clear H34 a34 H36 a36 H37 a37 H38 a38 H39 a39
  obtain ⟨p42, L42, B42, m42, c42, hg42, hr42, hm42, hp42⟩ := vols_getC hv (k := 1) (by decide)
  refine wl_ <| i_ H40 rfl (v := .agg #[.string (strB p42), .slice B42 m42 c42]) (dd_atN rfl (H40.ev 21 rfl) (hr42 _ HS34.below).1 Tryd.underlying45 rfl (by kernel_rfl)) fun a41 H41 => wl_ <| n_ H41 rfl (fun _ h => dd_new HS34 #[.string (⟨#[]⟩), .slice none 0 0] rfl (z := .agg #[.string (⟨#[]⟩), .slice none 0 0]) (by kernel_rfl) rfl h) fun g6_43 W43 HS43 a43 H43 => wl_ <| p_ H43 rfl rfl fun a44 H44 => wl_ <| t_ rfl (fun _ h => dd_setrow HS43 4 rfl rfl (H44.ev 6 rfl) (H44.ev 22 rfl) (by kernel_rfl) (rfl : #[.string (strB p42), .slice B42 m42 c42].size = 2) (rfl : #[.string (⟨#[]⟩), .slice none 0 0].size = 2) (one_l (ao_cons rfl (ao_cons rfl ao_nil))) h) fun W45 HS45 => ln_ <| nx <| sq_ <| rl_ <| wl_ <| i_ H44 rfl (v := .agg #[.string (strB p42), .slice B42 m42 c42]) (dd_load HS45 4 0 rfl rfl (H44.ev 6 rfl) (slab_whole _) Tryd.underlying45 rfl (by kernel_rfl)) fun a46 H46 => wl_ <| c_ H46 rfl HS45 (dcs Tryd.func19 rfl (args1 (H46.ev 23 rfl)) (tobytes_any _ _ _ p42 L42 W45 (hr42 _ HS45.below).2 (by have h9 := okT_parts ((goodT_parts hG).2.1 _ _ hg42); simp only at h9; omega)) (.agg (bs (volE (p42, L42))))) fun W47 HS47 a47 H47 => wl_ <| n_ H47 rfl (fun _ h => dd_new HS47 (bs (zer 9)) rfl (z := .agg (bs (zer 9))) (by kernel_rfl) rfl h) fun g7_48 W48 HS48 a48 H48 => wl_ <| t_ rfl (fun _ h => dd_setrow HS48 5 rfl rfl (H48.ev 7 rfl) (H48.ev 24 rfl) (by kernel_rfl) (((size_bs _).trans (length_volE _)) : (bs (volE (p42, L42))).size = 9) (((size_bs _).trans (length_zer 9)) : (bs (zer 9)).size = 9) (one_bs _) h) fun W49 HS49 => ?_
  clear H40 a40 HS34 H41 a41 H43 a43 HS43 H44 a44 H46 a46 HS45 HS47 H47 a47
  refine ln_ <| nx <| ?_
  clear HS48
  refine wi_ HS49 [0, 2, 3, 4, 5] rfl [0, 2, 3, 4, 5, 1] rfl fun HSh50 hx50 => hp_ H48 0 hx50 rfl rfl rfl fun a51 H51 => ht_ H51 1 hx50 rfl rfl (v := .int .i64 9) (fun _ _ _ => dd_ari rfl (H51.ev 25 rfl) rfl rfl (by decide)) fun a52 H52 => ht_ H52 2 hx50 rfl rfl (v := .int .i64 10) (fun _ _ _ => dd_ari rfl rfl (H52.ev 26 rfl) rfl (by decide)) fun a53 H53 => ht_ H53 3 hx50 rfl rfl (v := .slice (some ⟨g4, 10, none⟩) 22 22) (fun _ _ _ => dd_slAl (l := 10) (n := 32) (sz := 1) (j := 10) rfl (H53.ev 4 rfl) (H53.ev 27 rfl) (by kernel_rfl) (by decide) rfl rfl) fun a54 H54 => ht_ H54 4 hx50 rfl rfl (v := .slice (some ⟨g7_48, 0, none⟩) 9 9) (fun _ _ _ => dd_slA (n := 9) (sz := 1) rfl (H54.ev 7 rfl) (by kernel_rfl)) fun a55 H55 => h1_ 5 rfl <| tv H55 rfl (S := [⟨g2, 24, bs (zer 32)⟩, ⟨g4, 24, bs (spl (spl ((zer 32).set 0 (2#8)) 1 (volE (p19, L19))) 10 (volE (p42, L42)))⟩, ⟨g6, 45, #[.string (strB p19), .slice B19 m19 c19]⟩, ⟨g7, 47, bs (volE (p19, L19))⟩, ⟨g6_43, 45, #[.string (strB p42), .slice B42 m42 c42]⟩, ⟨g7_48, 47, bs (volE (p42, L42))⟩]) (v := .int .i64 9) (fun _ h => dd_copyR HSh50 1 rfl (len_spl (len_set (length_zer 32)) (length_volE _) (by decide)) rfl (H55.ev 28 rfl) (H55.ev 29 rfl) (slice_part (HSh50.row 5 rfl) 0 (bytes_slab (slab_whole _)) (length_volE _) (by decide)) (length_volE _) (by decide) (by decide) h) fun W56 HS56 a56 H56 => sx_ (sxi HS56 [0, 2, 3, 4, 5, 1] rfl) fun hx57 => ?_
  clear HS49 H48 a48 H51 a51 H52 a52 H53 a53 H54 a54 HSh50 H55 a55
  clear hx50
  refine wpAnyH_done (by kernel_rfl) ?_ _
  clear hx57
  refine bn <| nx <| rl_ <| wl_ <| i_ H56 rfl (v := .int .i64 2) (dd_ari rfl (H56.ev 18 rfl) rfl rfl (by decide)) fun a58 H58 => wl_ <| p_ H58 rfl rfl fun a59 H59 => ln_ <| ?_
  clear H56 a56 H58 a58
  have H60 := H59.sel [2, 4, 16, 17, 18] rfl
  refine nx <| unr_go <| sq_ <| rl_ <| wl_ <| i_ H60 rfl (dd_cmp rfl (H60.ev 18 rfl) (H60.ev 17 rfl) (lt_f (by decide))) fun a61 H61 => ln_ <| nx <| sq_ <| cf_ H61 rfl <| wp_exit <| tx <| tx <| bx <| nx <| sq_ <| rl_ <| wl_ <| i_ H61 rfl (v := .agg (bs (spl (spl ((zer 32).set 0 (2#8)) 1 (volE (p19, L19))) 10 (volE (p42, L42))))) (dd_load HS56 1 0 rfl rfl (H61.ev 4 rfl) (slab_whole _) Tryd.underlying24 rfl (by rw [show (bs (spl (spl ((zer 32).set 0 (2#8)) 1 (volE (p19, L19))) 10 (volE (p42, L42)))).size = 32 from ((size_bs _).trans (len_spl (len_spl (len_set (length_zer 32)) (length_volE _) (by decide)) (length_volE _) (by decide)))]; kernel_rfl)) fun a62 H62 => wl_ <| t_ rfl (fun _ h => dd_setrow HS56 0 rfl rfl (H62.ev 2 rfl) (H62.ev 32 rfl) (by kernel_rfl) (((size_bs _).trans (len_spl (len_spl (len_set (length_zer 32)) (length_volE _) (by decide)) (length_volE _) (by decide))) : (bs (spl (spl ((zer 32).set 0 (2#8)) 1 (volE (p19, L19))) 10 (volE (p42, L42)))).size = 32) (((size_bs _).trans (length_zer 32)) : (bs (zer 32)).size = 32) (one_bs _) h) fun W63 HS63 => wl_ <| p_ H62 rfl rfl fun a64 H64 => ln_ <| nx <| wp_ret <| ret_run H64.env0 (res_ct Tryd.results10 (H64.get 2 rfl) (HS63.row 0 rfl) Tryd.underlying24 rfl (by rw [show (bs (spl (spl ((zer 32).set 0 (2#8)) 1 (volE (p19, L19))) 10 (volE (p42, L42)))).size = 32 from ((size_bs _).trans (len_spl (len_spl (len_set (length_zer 32)) (length_volE _) (by decide)) (length_volE _) (by decide)))]; kernel_rfl) (H64.get 3 rfl)) <| ?_
  clear H59 H60 a59 H61 a61 HS56 H62 a62
  have hl : l = [(p19, L19), (p42, L42)] := tvs_2 hln hg19 hg42
  exact ⟨by unfold encT encE; rw [hG, if_pos rfl, if_pos rfl, hl, ← encB_2], HS63.below⟩
set_option maxHeartbeats 1600000 in
theorem enct3 (b o c : Nat) (l : List Tv) (w : World) (hv : VolsAt w (.slice (some ⟨b, o, none⟩) 3 c) (volL l)) (hml : ∀ x ∈ l, x.2.length ≤ 1000000) (hG : goodT l = true) :
    Calls Tryd.prog 10 #[.slice (some ⟨b, o, none⟩) 3 c] w fun e w' => e = .returned (.tuple #[.agg (bs (encT l)), .int .i64 (encE l)]) ∧ Below w.heap.size w w' := by
  have HS := St.nil w noF
  have hn : 3 ≤ 1000000 := by decide
  have hln : l.length = 3 := by rw [← len_volL]; exact vols_len hv
  refine enter_en Tryd.func10 rfl Tryd.ntmps10 (Nat.le_of_ble_eq_true rfl) fun a0 (HA0 : En 33 [(0, .slice (some ⟨b, o, none⟩) 3 c)] a0) => ?_
  refine sq_ <| rl_ <| wl_ <| n_ HA0 rfl (fun _ h => dd_new HS (bs (zer 32)) rfl (z := .agg (bs (zer 32))) (by kernel_rfl) rfl h) fun g2 W1 HS1 a1 H1 => wl_ <| p_ H1 rfl rfl fun a2 H2 => ln_ <| nx <| sq_ <| sq_ <| rl_ <| wl_ <| p_ H2 rfl rfl fun a3 H3 => wl_ <| c_ H3 rfl HS1 (v := .bool true) (dc_ Tryd.func14 rfl (args1 (H3.ev 8 rfl)) (goodt_any _ _ _ l W1 (hv.below HS1.below (Nat.le_refl _)) hn hml) (fun _ w9 h9 => ⟨_, h9.1, by rw [hG], h9.2⟩)) fun W4 HS4 a4 H4 => wl_ <| i_ H4 rfl (v := .bool false) (dd_nt rfl (H4.ev 9 rfl) rfl) fun a5 H5 => ln_ <| nx <| cf_ H5 rfl <| wp_skip <| nx <| sq_ <| rl_ <| wl_ <| n_ H5 rfl (fun _ h => dd_new HS4 (bs (zer 32)) rfl (z := .agg (bs (zer 32))) (by kernel_rfl) rfl h) fun g4 W6 HS6 a6 H6 => ln_ <| nx <| sq_ <| rl_ <| wl_ <| p_ H6 rfl rfl fun a7 H7 => wl_ <| i_ H7 rfl (v := .int .i64 3) (dd_len rfl (H7.ev 12 rfl) Tryd.underlying22) fun a8 H8 => ?_
  clear HS HA0 a0 H1 a1 H2 a2 H3 a3 HS1 H4 a4 HS4 H5 a5 H6 a6
  refine wl_ <| i_ H8 rfl (v := .int .u8 3) (dd_conv (k := .u8) rfl (H8.ev 13 rfl) Tryd.underlying3 (by kernel_rfl) (by decide)) fun a9 H9 => wl_ <| i_ H9 rfl (xA 32 1 0 rfl (H9.ev 4 rfl) rfl) fun a10 H10 => wl_ <| t_ rfl (S := [⟨g2, 24, bs (zer 32)⟩, ⟨g4, 24, bs ((zer 32).set 0 (3#8))⟩]) (fun _ h => dd_put HS6 1 0 rfl rfl (H10.ev 15 rfl) (H10.ev 14 rfl) (by kernel_rfl) rfl rfl (by rw [((size_bs _).trans (length_zer 32))]; rfl) (set_bs _ _ (3#8)) h) fun W11 HS11 => ln_ <| nx <| sq_ <| sq_ <| rl_ <| wl_ <| p_ H10 rfl rfl fun a12 H12 => wl_ <| i_ H12 rfl (v := .int .i64 3) (dd_len rfl (H12.ev 16 rfl) Tryd.underlying22) fun a13 H13 => wl_ <| p_ H13 rfl rfl fun a14 H14 => ln_ <| nx <| wp_block <| wp_unr 4 <| unr_go <| sq_ <| rl_ <| wl_ <| i_ H14 rfl (dd_cmp rfl (H14.ev 18 rfl) (H14.ev 17 rfl) (lt_t (by decide))) fun a15 H15 => ln_ <| nx <| sq_ <| ct_ H15 rfl <| wp_skip <| nx <| sq_ <| wp_block <| sq_ <| rl_ <| wl_ <| p_ H15 rfl rfl fun a16 H16 => ?_
  clear H7 a7 H8 a8 H9 a9 HS6 H10 a10 H12 a12 H13 a13 H14 a14
  refine wl_ <| i_ H16 rfl (xS 2 (o + 0) rfl (H16.ev 16 rfl) (H16.ev 18 rfl)) fun a17 H17 => ?_
  clear H15 a15 H16 a16
  obtain ⟨p19, L19, B19, m19, c19, hg19, hr19, hm19, hp19⟩ := vols_getC hv (k := 0) (by decide)
  refine wl_ <| i_ H17 rfl (v := .agg #[.string (strB p19), .slice B19 m19 c19]) (dd_atN rfl (H17.ev 21 rfl) (hr19 _ HS11.below).1 Tryd.underlying45 rfl (by kernel_rfl)) fun a18 H18 => wl_ <| n_ H18 rfl (fun _ h => dd_new HS11 #[.string (⟨#[]⟩), .slice none 0 0] rfl (z := .agg #[.string (⟨#[]⟩), .slice none 0 0]) (by kernel_rfl) rfl h) fun g6 W20 HS20 a20 H20 => wl_ <| p_ H20 rfl rfl fun a21 H21 => wl_ <| t_ rfl (fun _ h => dd_setrow HS20 2 rfl rfl (H21.ev 6 rfl) (H21.ev 22 rfl) (by kernel_rfl) (rfl : #[.string (strB p19), .slice B19 m19 c19].size = 2) (rfl : #[.string (⟨#[]⟩), .slice none 0 0].size = 2) (one_l (ao_cons rfl (ao_cons rfl ao_nil))) h) fun W22 HS22 => ln_ <| nx <| sq_ <| rl_ <| wl_ <| i_ H21 rfl (v := .agg #[.string (strB p19), .slice B19 m19 c19]) (dd_load HS22 2 0 rfl rfl (H21.ev 6 rfl) (slab_whole _) Tryd.underlying45 rfl (by kernel_rfl)) fun a23 H23 => wl_ <| c_ H23 rfl HS22 (dcs Tryd.func19 rfl (args1 (H23.ev 23 rfl)) (tobytes_any _ _ _ p19 L19 W22 (hr19 _ HS22.below).2 (by have h9 := okT_parts ((goodT_parts hG).2.1 _ _ hg19); simp only at h9; omega)) (.agg (bs (volE (p19, L19))))) fun W24 HS24 a24 H24 => wl_ <| n_ H24 rfl (fun _ h => dd_new HS24 (bs (zer 9)) rfl (z := .agg (bs (zer 9))) (by kernel_rfl) rfl h) fun g7 W25 HS25 a25 H25 => wl_ <| t_ rfl (fun _ h => dd_setrow HS25 3 rfl rfl (H25.ev 7 rfl) (H25.ev 24 rfl) (by kernel_rfl) (((size_bs _).trans (length_volE _)) : (bs (volE (p19, L19))).size = 9) (((size_bs _).trans (length_zer 9)) : (bs (zer 9)).size = 9) (one_bs _) h) fun W26 HS26 => ?_
  clear H17 a17 HS11 H18 a18 H20 a20 HS20 H21 a21 H23 a23 HS22 HS24 H24 a24
  refine ln_ <| ?_
  clear HS25
  have H27 := H25.sel [2, 4, 16, 17, 18, 5, 7] rfl
  refine nx <| ?_
  clear H25
  refine wi_ HS26 [0, 2, 3] rfl [0, 2, 3, 1] rfl fun HSh28 hx28 => hp_ H27 0 hx28 rfl rfl rfl fun a29 H29 => ht_ H29 1 hx28 rfl rfl (v := .int .i64 0) (fun _ _ _ => dd_ari rfl (H29.ev 25 rfl) rfl rfl (by decide)) fun a30 H30 => ht_ H30 2 hx28 rfl rfl (v := .int .i64 1) (fun _ _ _ => dd_ari rfl rfl (H30.ev 26 rfl) rfl (by decide)) fun a31 H31 => ht_ H31 3 hx28 rfl rfl (v := .slice (some ⟨g4, 1, none⟩) 31 31) (fun _ _ _ => dd_slAl (l := 1) (n := 32) (sz := 1) (j := 1) rfl (H31.ev 4 rfl) (H31.ev 27 rfl) (by kernel_rfl) (by decide) rfl rfl) fun a32 H32 => ht_ H32 4 hx28 rfl rfl (v := .slice (some ⟨g7, 0, none⟩) 9 9) (fun _ _ _ => dd_slA (n := 9) (sz := 1) rfl (H32.ev 7 rfl) (by kernel_rfl)) fun a33 H33 => h1_ 5 rfl <| tv H33 rfl (S := [⟨g2, 24, bs (zer 32)⟩, ⟨g4, 24, bs (spl ((zer 32).set 0 (3#8)) 1 (volE (p19, L19)))⟩, ⟨g6, 45, #[.string (strB p19), .slice B19 m19 c19]⟩, ⟨g7, 47, bs (volE (p19, L19))⟩]) (v := .int .i64 9) (fun _ h => dd_copyR HSh28 1 rfl (len_set (length_zer 32)) rfl (H33.ev 28 rfl) (H33.ev 29 rfl) (slice_part (HSh28.row 3 rfl) 0 (bytes_slab (slab_whole _)) (length_volE _) (by decide)) (length_volE _) (by decide) (by decide) h) fun W34 HS34 a34 H34 => sx_ (sxi HS34 [0, 2, 3, 1] rfl) fun hx35 => ?_
  clear HS26 H27 a25 H29 a29 H30 a30 H31 a31 H32 a32 HSh28 H33 a33
  clear hx28
  refine wpAnyH_done (by kernel_rfl) ?_ _
  clear hx35
  refine bn <| nx <| rl_ <| wl_ <| i_ H34 rfl (v := .int .i64 1) (dd_ari rfl (H34.ev 18 rfl) rfl rfl (by decide)) fun a36 H36 => wl_ <| p_ H36 rfl rfl fun a37 H37 => ln_ <| nx <| unr_go <| sq_ <| rl_ <| wl_ <| i_ H37 rfl (dd_cmp rfl (H37.ev 18 rfl) (H37.ev 17 rfl) (lt_t (by decide))) fun a38 H38 => ln_ <| nx <| sq_ <| ct_ H38 rfl <| wp_skip <| nx <| sq_ <| wp_block <| sq_ <| rl_ <| wl_ <| p_ H38 rfl rfl fun a39 H39 => wl_ <| i_ H39 rfl (xS 2 (o + 2) rfl (H39.ev 16 rfl) (H39.ev 18 rfl)) fun a40 H40 => ?_
  clear H34 a34 H36 a36 H37 a37 H38 a38 H39 a39
  obtain ⟨p42, L42, B42, m42, c42, hg42, hr42, hm42, hp42⟩ := vols_getC hv (k := 1) (by decide)
  refine wl_ <| i_ H40 rfl (v := .agg #[.string (strB p42), .slice B42 m42 c42]) (dd_atN rfl (H40.ev 21 rfl) (hr42 _ HS34.below).1 Tryd.underlying45 rfl (by kernel_rfl)) fun a41 H41 => wl_ <| n_ H41 rfl (fun _ h => dd_new HS34 #[.string (⟨#[]⟩), .slice none 0 0] rfl (z := .agg #[.string (⟨#[]⟩), .slice none 0 0]) (by kernel_rfl) rfl h) fun g6_43 W43 HS43 a43 H43 => wl_ <| p_ H43 rfl rfl fun a44 H44 => wl_ <| t_ rfl (fun _ h => dd_setrow HS43 4 rfl rfl (H44.ev 6 rfl) (H44.ev 22 rfl) (by kernel_rfl) (rfl : #[.string (strB p42), .slice B42 m42 c42].size = 2) (rfl : #[.string (⟨#[]⟩), .slice none 0 0].size = 2) (one_l (ao_cons rfl (ao_cons rfl ao_nil))) h) fun W45 HS45 => ln_ <| nx <| sq_ <| rl_ <| wl_ <| i_ H44 rfl (v := .agg #[.string (strB p42), .slice B42 m42 c42]) (dd_load HS45 4 0 rfl rfl (H44.ev 6 rfl) (slab_whole _) Tryd.underlying45 rfl (by kernel_rfl)) fun a46 H46 => wl_ <| c_ H46 rfl HS45 (dcs Tryd.func19 rfl (args1 (H46.ev 23 rfl)) (tobytes_any _ _ _ p42 L42 W45 (hr42 _ HS45.below).2 (by have h9 := okT_parts ((goodT_parts hG).2.1 _ _ hg42); simp only at h9; omega)) (.agg (bs (volE (p42, L42))))) fun W47 HS47 a47 H47 => wl_ <| n_ H47 rfl (fun _ h => dd_new HS47 (bs (zer 9)) rfl (z := .agg (bs (zer 9))) (by kernel_rfl) rfl h) fun g7_48 W48 HS48 a48 H48 => wl_ <| t_ rfl (fun _ h => dd_setrow HS48 5 rfl rfl (H48.ev 7 rfl) (H48.ev 24 rfl) (by kernel_rfl) (((size_bs _).trans (length_volE _)) : (bs (volE (p42, L42))).size = 9) (((size_bs _).trans (length_zer 9)) : (bs (zer 9)).size = 9) (one_bs _) h) fun W49 HS49 => ?_
  clear H40 a40 HS34 H41 a41 H43 a43 HS43 H44 a44 H46 a46 HS45 HS47 H47 a47
  refine ln_ <| nx <| ?_
  clear HS48
  refine wi_ HS49 [0, 2, 3, 4, 5] rfl [0, 2, 3, 4, 5, 1] rfl fun HSh50 hx50 => hp_ H48 0 hx50 rfl rfl rfl fun a51 H51 => ht_ H51 1 hx50 rfl rfl (v := .int .i64 9) (fun _ _ _ => dd_ari rfl (H51.ev 25 rfl) rfl rfl (by decide)) fun a52 H52 => ht_ H52 2 hx50 rfl rfl (v := .int .i64 10) (fun _ _ _ => dd_ari rfl rfl (H52.ev 26 rfl) rfl (by decide)) fun a53 H53 => ht_ H53 3 hx50 rfl rfl (v := .slice (some ⟨g4, 10, none⟩) 22 22) (fun _ _ _ => dd_slAl (l := 10) (n := 32) (sz := 1) (j := 10) rfl (H53.ev 4 rfl) (H53.ev 27 rfl) (by kernel_rfl) (by decide) rfl rfl) fun a54 H54 => ht_ H54 4 hx50 rfl rfl (v := .slice (some ⟨g7_48, 0, none⟩) 9 9) (fun _ _ _ => dd_slA (n := 9) (sz := 1) rfl (H54.ev 7 rfl) (by kernel_rfl)) fun a55 H55 => h1_ 5 rfl <| tv H55 rfl (S := [⟨g2, 24, bs (zer 32)⟩, ⟨g4, 24, bs (spl (spl ((zer 32).set 0 (3#8)) 1 (volE (p19, L19))) 10 (volE (p42, L42)))⟩, ⟨g6, 45, #[.string (strB p19), .slice B19 m19 c19]⟩, ⟨g7, 47, bs (volE (p19, L19))⟩, ⟨g6_43, 45, #[.string (strB p42), .slice B42 m42 c42]⟩, ⟨g7_48, 47, bs (volE (p42, L42))⟩]) (v := .int .i64 9) (fun _ h => dd_copyR HSh50 1 rfl (len_spl (len_set (length_zer 32)) (length_volE _) (by decide)) rfl (H55.ev 28 rfl) (H55.ev 29 rfl) (slice_part (HSh50.row 5 rfl) 0 (bytes_slab (slab_whole _)) (length_volE _) (by decide)) (length_volE _) (by decide) (by decide) h) fun W56 HS56 a56 H56 => sx_ (sxi HS56 [0, 2, 3, 4, 5, 1] rfl) fun hx57 => ?_
  clear HS49 H48 a48 H51 a51 H52 a52 H53 a53 H54 a54 HSh50 H55 a55
  clear hx50
  refine wpAnyH_done (by kernel_rfl) ?_ _
  clear hx57
  refine bn <| nx <| rl_ <| wl_ <| i_ H56 rfl (v := .int .i64 2) (dd_ari rfl (H56.ev 18 rfl) rfl rfl (by decide)) fun a58 H58 => wl_ <| p_ H58 rfl rfl fun a59 H59 => ln_ <| ?_
  clear H56 a56 H58 a58
  have H60 := H59.sel [2, 4, 16, 17, 18] rfl
  refine nx <| unr_go <| sq_ <| rl_ <| wl_ <| i_ H60 rfl (dd_cmp rfl (H60.ev 18 rfl) (H60.ev 17 rfl) (lt_t (by decide))) fun a61 H61 => ln_ <| nx <| sq_ <| ct_ H61 rfl <| wp_skip <| nx <| sq_ <| wp_block <| sq_ <| rl_ <| wl_ <| p_ H61 rfl rfl fun a62 H62 => wl_ <| i_ H62 rfl (xS 2 (o + 4) rfl (H62.ev 16 rfl) (H62.ev 18 rfl)) fun a63 H63 => ?_
  clear H59 H60 a59 H61 a61 H62 a62
  obtain ⟨p65, L65, B65, m65, c65, hg65, hr65, hm65, hp65⟩ := vols_getC hv (k := 2) (by decide)
  refine wl_ <| i_ H63 rfl (v := .agg #[.string (strB p65), .slice B65 m65 c65]) (dd_atN rfl (H63.ev 21 rfl) (hr65 _ HS56.below).1 Tryd.underlying45 rfl (by kernel_rfl)) fun a64 H64 => wl_ <| n_ H64 rfl (fun _ h => dd_new HS56 #[.string (⟨#[]⟩), .slice none 0 0] rfl (z := .agg #[.string (⟨#[]⟩), .slice none 0 0]) (by kernel_rfl) rfl h) fun g6_66 W66 HS66 a66 H66 => wl_ <| p_ H66 rfl rfl fun a67 H67 => wl_ <| t_ rfl (fun _ h => dd_setrow HS66 6 rfl rfl (H67.ev 6 rfl) (H67.ev 22 rfl) (by kernel_rfl) (rfl : #[.string (strB p65), .slice B65 m65 c65].size = 2) (rfl : #[.string (⟨#[]⟩), .slice none 0 0].size = 2) (one_l (ao_cons rfl (ao_cons rfl ao_nil))) h) fun W68 HS68 => ln_ <| nx <| sq_ <| rl_ <| wl_ <| i_ H67 rfl (v := .agg #[.string (strB p65), .slice B65 m65 c65]) (dd_load HS68 6 0 rfl rfl (H67.ev 6 rfl) (slab_whole _) Tryd.underlying45 rfl (by kernel_rfl)) fun a69 H69 => wl_ <| c_ H69 rfl HS68 (dcs Tryd.func19 rfl (args1 (H69.ev 23 rfl)) (tobytes_any _ _ _ p65 L65 W68 (hr65 _ HS68.below).2 (by have h9 := okT_parts ((goodT_parts hG).2.1 _ _ hg65); simp only at h9; omega)) (.agg (bs (volE (p65, L65))))) fun W70 HS70 a70 H70 => wl_ <| n_ H70 rfl (fun _ h => dd_new HS70 (bs (zer 9)) rfl (z := .agg (bs (zer 9))) (by kernel_rfl) rfl h) fun g7_71 W71 HS71 a71 H71 => wl_ <| t_ rfl (fun _ h => dd_setrow HS71 7 rfl rfl (H71.ev 7 rfl) (H71.ev 24 rfl) (by kernel_rfl) (((size_bs _).trans (length_volE _)) : (bs (volE (p65, L65))).size = 9) (((size_bs _).trans (length_zer 9)) : (bs (zer 9)).size = 9) (one_bs _) h) fun W72 HS72 => ?_
  clear H63 a63 HS56 H64 a64 H66 a66 HS66 H67 a67 H69 a69 HS68 HS70 H70 a70
  refine ln_ <| nx <| ?_
  clear HS71
  refine wi_ HS72 [0, 2, 3, 4, 5, 6, 7] rfl [0, 2, 3, 4, 5, 6, 7, 1] rfl fun HSh73 hx73 => hp_ H71 0 hx73 rfl rfl rfl fun a74 H74 => ht_ H74 1 hx73 rfl rfl (v := .int .i64 18) (fun _ _ _ => dd_ari rfl (H74.ev 25 rfl) rfl rfl (by decide)) fun a75 H75 => ht_ H75 2 hx73 rfl rfl (v := .int .i64 19) (fun _ _ _ => dd_ari rfl rfl (H75.ev 26 rfl) rfl (by decide)) fun a76 H76 => ht_ H76 3 hx73 rfl rfl (v := .slice (some ⟨g4, 19, none⟩) 13 13) (fun _ _ _ => dd_slAl (l := 19) (n := 32) (sz := 1) (j := 19) rfl (H76.ev 4 rfl) (H76.ev 27 rfl) (by kernel_rfl) (by decide) rfl rfl) fun a77 H77 => ht_ H77 4 hx73 rfl rfl (v := .slice (some ⟨g7_71, 0, none⟩) 9 9) (fun _ _ _ => dd_slA (n := 9) (sz := 1) rfl (H77.ev 7 rfl) (by kernel_rfl)) fun a78 H78 => h1_ 5 rfl <| tv H78 rfl (S := [⟨g2, 24, bs (zer 32)⟩, ⟨g4, 24, bs (spl (spl (spl ((zer 32).set 0 (3#8)) 1 (volE (p19, L19))) 10 (volE (p42, L42))) 19 (volE (p65, L65)))⟩, ⟨g6, 45, #[.string (strB p19), .slice B19 m19 c19]⟩, ⟨g7, 47, bs (volE (p19, L19))⟩, ⟨g6_43, 45, #[.string (strB p42), .slice B42 m42 c42]⟩, ⟨g7_48, 47, bs (volE (p42, L42))⟩, ⟨g6_66, 45, #[.string (strB p65), .slice B65 m65 c65]⟩, ⟨g7_71, 47, bs (volE (p65, L65))⟩]) (v := .int .i64 9) (fun _ h => dd_copyR HSh73 1 rfl (len_spl (len_spl (len_set (length_zer 32)) (length_volE _) (by decide)) (length_volE _) (by decide)) rfl (H78.ev 28 rfl) (H78.ev 29 rfl) (slice_part (HSh73.row 7 rfl) 0 (bytes_slab (slab_whole _)) (length_volE _) (by decide)) (length_volE _) (by decide) (by decide) h) fun W79 HS79 a79 H79 => sx_ (sxi HS79 [0, 2, 3, 4, 5, 6, 7, 1] rfl) fun hx80 => ?_
  clear HS72 H71 a71 H74 a74 H75 a75 H76 a76 H77 a77 HSh73 H78 a78
  clear hx73
  refine wpAnyH_done (by kernel_rfl) ?_ _
  clear hx80
  refine bn <| nx <| rl_ <| wl_ <| i_ H79 rfl (v := .int .i64 3) (dd_ari rfl (H79.ev 18 rfl) rfl rfl (by decide)) fun a81 H81 => wl_ <| p_ H81 rfl rfl fun a82 H82 => ln_ <| ?_
  clear H79 a79 H81 a81
  have H83 := H82.sel [2, 4, 16, 17, 18] rfl
  refine nx <| unr_go <| sq_ <| rl_ <| wl_ <| i_ H83 rfl (dd_cmp rfl (H83.ev 18 rfl) (H83.ev 17 rfl) (lt_f (by decide))) fun a84 H84 => ln_ <| nx <| sq_ <| cf_ H84 rfl <| wp_exit <| tx <| tx <| bx <| nx <| sq_ <| rl_ <| wl_ <| i_ H84 rfl (v := .agg (bs (spl (spl (spl ((zer 32).set 0 (3#8)) 1 (volE (p19, L19))) 10 (volE (p42, L42))) 19 (volE (p65, L65))))) (dd_load HS79 1 0 rfl rfl (H84.ev 4 rfl) (slab_whole _) Tryd.underlying24 rfl (by rw [show (bs (spl (spl (spl ((zer 32).set 0 (3#8)) 1 (volE (p19, L19))) 10 (volE (p42, L42))) 19 (volE (p65, L65)))).size = 32 from ((size_bs _).trans (len_spl (len_spl (len_spl (len_set (length_zer 32)) (length_volE _) (by decide)) (length_volE _) (by decide)) (length_volE _) (by decide)))]; kernel_rfl)) fun a85 H85 => wl_ <| t_ rfl (fun _ h => dd_setrow HS79 0 rfl rfl (H85.ev 2 rfl) (H85.ev 32 rfl) (by kernel_rfl) (((size_bs _).trans (len_spl (len_spl (len_spl (len_set (length_zer 32)) (length_volE _) (by decide)) (length_volE _) (by decide)) (length_volE _) (by decide))) : (bs (spl (spl (spl ((zer 32).set 0 (3#8)) 1 (volE (p19, L19))) 10 (volE (p42, L42))) 19 (volE (p65, L65)))).size = 32) (((size_bs _).trans (length_zer 32)) : (bs (zer 32)).size = 32) (one_bs _) h) fun W86 HS86 => wl_ <| p_ H85 rfl rfl fun a87 H87 => ln_ <| nx <| wp_ret <| ret_run H87.env0 (res_ct Tryd.results10 (H87.get 2 rfl) (HS86.row 0 rfl) Tryd.underlying24 rfl (by rw [show (bs (spl (spl (spl ((zer 32).set 0 (3#8)) 1 (volE (p19, L19))) 10 (volE (p42, L42))) 19 (volE (p65, L65)))).size = 32 from ((size_bs _).trans (len_spl (len_spl (len_spl (len_set (length_zer 32)) (length_volE _) (by decide)) (length_volE _) (by decide)) (length_volE _) (by decide)))]; kernel_rfl) (H87.get 3 rfl)) <| ?_
  clear H82 H83 a82 H84 a84 HS79 H85 a85
  have hl : l = [(p19, L19), (p42, L42), (p65, L65)] := tvs_3 hln hg19 hg42 hg65
  exact ⟨by unfold encT encE; rw [hG, if_pos rfl, if_pos rfl, hl, ← encB_3], HS86.below⟩
theorem enct_any (A : Option Addr) (n c : Nat) (l : List Tv) (w : World) (hv : VolsAt w (.slice A n c) (volL l)) (hn : n ≤ 1000000) (hml : ∀ x ∈ l, x.2.length ≤ 1000000) :
    Calls Tryd.prog 10 #[.slice A n c] w fun e w' => e = .returned (.tuple #[.agg (bs (encT l)), .int .i64 (encE l)]) ∧ Below w.heap.size w w' := by
  cases hG : goodT l with
  | false => exact enct_bad A n c l w hv hn hml hG
  | true =>
    have hln : l.length = n := by rw [← len_volL]; exact vols_len hv
    have h3 := (goodT_parts hG).1
    rcases (by omega : n = 0 ∨ n = 1 ∨ n = 2 ∨ n = 3) with rfl | rfl | rfl | rfl
    · exact enct0 c A l w hv hml hG
    · obtain ⟨b, o, rfl⟩ := vols_some hv (by decide); exact enct1 b o c l w hv hml hG
    · obtain ⟨b, o, rfl⟩ := vols_some hv (by decide); exact enct2 b o c l w hv hml hG
    · obtain ⟨b, o, rfl⟩ := vols_some hv (by decide); exact enct3 b o c l w hv hml hG
end Go.Proofs.YtpmedgibnnonkaaDoor

/- Slices of volumes of one's own: appended to, read. No function of the program is named here. -/
set_option maxRecDepth 4000
namespace Go.Proofs.YtpmedgibnnonkaaDoor
open Go Go.RowKit
theorem info_vol : (Tryd.prog.info? 45).map (fun i => (i.zero, i.size, i.bytes)) = some (some (.agg #[.string ⟨#[]⟩, .slice none 0 0]), 2, 40) := by kernel_rfl
/- a volume's blocks: known in an earlier world, or of one's own -/
def InV (base : Nat) (W : World) (A : Option Addr) (c : Nat) (L : List Int) : Prop :=
  (∃ w1 : World, w1.heap.size ≤ base ∧ Below base w1 W ∧ IntsAt w1 (.slice A L.length c) L) ∨
  (W.ownsRow base 3 1 (.slice A L.length c) L.length (intsV L) ∧ ∀ x ∈ L, -9223372036854775808 ≤ x ∧ x < 9223372036854775808)
def CellsV (base : Nat) (W : World) (vs : List (List Value)) (l : List Vl) : Prop :=
  vs.length = l.length ∧ (∀ c ∈ vs, c.length = 2) ∧ ∀ (j : Nat) (x : Vl), l[j]? = some x → ∃ A c, vs[j]? = some [.string x.1, .slice A x.2.length c] ∧ InV base W A c x.2 ∧ x.1.size ≤ maxLen
def OV (base : Nat) (W : World) (v : Value) (l : List Vl) : Prop := ∃ vs, W.ownsRow base 45 2 v l.length vs.flatten ∧ CellsV base W vs l
theorem InV.ints {base : Nat} {W : World} {A : Option Addr} {c : Nat} {L : List Int} (h : InV base W A c L) : IntsAt W (.slice A L.length c) L := by
  rcases h with ⟨w1, h1, h2, h3⟩ | ⟨h1, h2⟩
  · exact h3.below h2 h1
  · exact ints_own h1 h2
theorem InV.call {base : Nat} {W W' : World} {A : Option Addr} {c : Nat} {L : List Int} (h : InV base W A c L) (hb : Below W.heap.size W W') (hB : base ≤ W.heap.size) : InV base W' A c L := by
  rcases h with ⟨w1, h1, h2, h3⟩ | ⟨h1, h2⟩
  · exact .inl ⟨w1, h1, h2.trans (hb.mono hB), h3⟩
  · exact .inr ⟨owns_call h1 hb, h2⟩
theorem CellsV.call {base : Nat} {W W' : World} {vs : List (List Value)} {l : List Vl} (h : CellsV base W vs l) (hb : Below W.heap.size W W') (hB : base ≤ W.heap.size) : CellsV base W' vs l :=
  ⟨h.1, h.2.1, fun j x hx => by obtain ⟨A, c, h1, h2, h3⟩ := h.2.2 j x hx; exact ⟨A, c, h1, h2.call hb hB, h3⟩⟩
theorem OV.call {base : Nat} {W W' : World} {v : Value} {l : List Vl} (h : OV base W v l) (hb : Below W.heap.size W W') (hB : base ≤ W.heap.size) : OV base W' v l := by
  obtain ⟨vs, h1, h2⟩ := h
  exact ⟨vs, owns_call h1 hb, h2.call hb hB⟩
theorem OV.form {base : Nat} {W : World} {v : Value} {l : List Vl} (h : OV base W v l) : ∃ A c, v = .slice A l.length c ∧ l.length ≤ c := by
  obtain ⟨vs, h1, _⟩ := h
  exact own_slice_form h1
theorem OV.form2 {base : Nat} {W : World} {v : Value} {l : List Vl} (h : OV base W v l) : ∃ A n c, v = .slice A n c ∧ l.length = n ∧ n ≤ c := by
  obtain ⟨A, c, e, h1⟩ := h.form
  exact ⟨A, _, c, e, rfl, h1⟩
theorem OV.vols {base : Nat} {W : World} {v : Value} {l : List Vl} (h : OV base W v l) (hm : l.length ≤ maxLen) : VolsAt W v l := by
  obtain ⟨vs, h1, hvl, hv2, h3⟩ := h
  rcases h1.2 with ⟨rfl, h0⟩ | ⟨g, cap, cur, rfl, _, hrow, hcap, _, hsz, htk⟩
  · have hl0 : l = [] := List.eq_nil_of_length_eq_zero h0
    subst hl0
    exact vols_none W
  · refine ⟨_, _, rfl, hcap, fun h => (by cases h), hm, fun _ => ⟨g, 0, rfl, (h1.lt g rfl).2, fun k x hx => ?_⟩⟩
    obtain ⟨A2, c2, hcs, ho, hms⟩ := h3 k x hx
    refine ⟨_, rfl, fun j v hv => ?_, vol_rd ⟨A2, c2, rfl, ho.ints, hms⟩⟩
    have hk : k < l.length := (List.getElem?_eq_some_iff.1 hx).1
    have hj : j < 2 := (List.getElem?_eq_some_iff.1 hv).1
    rw [Nat.zero_add, h1.cellAt (k * 2 + j) (by omega), flat_get (sz := 2) vs hv2 k j _ hcs hj]
    exact hv
theorem OV.nil (base : Nat) (W : World) : OV base W (.slice none 0 0) [] := ⟨[], by simpa using World.ownsRow_nil _ _ _ _, rfl, fun c hc => by simp at hc, fun j x hx => by simp at hx⟩
theorem OV.empty (base : Nat) (W : World) (h : base ≤ W.heap.size) : OV base (W.alloc (.cells #[] 45)) (.slice (some ⟨W.heap.size, 0, none⟩) 0 0) [] :=
  ⟨[], ⟨rfl, .inr ⟨W.heap.size, 0, #[], rfl, h, heap_alloc_new W _, Nat.le_refl _, by unfold maxLen; simp, rfl, rfl⟩⟩, rfl, fun c hc => by simp at hc, fun j x hx => by simp at hx⟩
/- what is laid there to be appended -/
def VolsIn (base : Nat) (W : World) (A : Option Addr) (m c : Nat) (l : List Vl) : Prop :=
  m = l.length ∧ (A = none → c = 0 ∧ l = []) ∧ ∃ vs, CellsV base W vs l ∧ ∀ ad, A = some ad → ∀ j u, vs.flatten[j]? = some u → W.cell? (ad.add j) = some u
theorem vol_lit {base : Nat} {W : World} {g : Nat} {s : ByteArray} {A : Option Addr} {c : Nat} {L : List Int} (hr : Row W g 45 #[.string s, .slice A L.length c]) (hi : InV base W A c L) (hs : s.size ≤ maxLen) : VolsIn base W (some ⟨g, 0, none⟩) 1 1 [(s, L)] :=
  ⟨rfl, fun h => (by cases h), [[.string s, .slice A L.length c]], ⟨rfl, fun c hc => (by rw [List.mem_singleton.1 hc]; rfl), fun j x hx => (by
    cases j with
    | zero => (cases hx; exact ⟨A, c, rfl, hi, hs⟩)
    | succ j => (simp at hx))⟩, fun ad had j u hu => by
      cases had
      rw [Addr.add_mid, Nat.zero_add]
      exact hr.get (by rw [← Array.getElem?_toList]; simpa using hu)⟩
theorem CellsV.append {base : Nat} {W : World} {vs us : List (List Value)} {l m : List Vl} (h : CellsV base W vs l) (k : CellsV base W us m) : CellsV base W (vs ++ us) (l ++ m) := by
  refine ⟨by rw [List.length_append, List.length_append, h.1, k.1], fun c hc => ?_, fun j x hx => ?_⟩
  · rcases List.mem_append.1 hc with hc | hc
    · exact h.2.1 c hc
    · exact k.2.1 c hc
  · by_cases hj : j < l.length
    · rw [List.getElem?_append_left hj] at hx
      rw [List.getElem?_append_left (by rw [h.1]; exact hj)]
      exact h.2.2 j x hx
    · rw [List.getElem?_append_right (by omega)] at hx
      rw [List.getElem?_append_right (by rw [h.1]; omega), h.1]
      exact k.2.2 _ x hx
theorem one_volV {base : Nat} {W : World} {vs : List (List Value)} {l : List Vl} (h : CellsV base W vs l) : ∀ v ∈ vs.flatten, v.oneCell' = true := by
  intro v hv
  obtain ⟨c, hc, hv⟩ := List.mem_flatten.1 hv
  obtain ⟨j, hj, rfl⟩ := List.getElem_of_mem hc
  obtain ⟨A, cc, e, _⟩ := h.2.2 j _ (List.getElem?_eq_getElem (by rw [← h.1]; exact hj))
  rw [List.getElem?_eq_getElem hj] at e
  injection e with e
  rw [e] at hv
  simp at hv
  rcases hv with rfl | rfl <;> rfl
theorem CellsV.grown {base : Nat} {W W' : World} {v : Value} {n : Nat} {xs : List Value} {us : List (List Value)} {m : List Vl} (h : CellsV base W us m) (ho : W.ownsRow base 45 2 v n xs) (hg : W.grownBy W' v.ownBlock) (hB : base ≤ W.heap.size) : CellsV base W' us m := by
  have hbl : Below base W W' := below_of_grown hg (fun g e => (ho.lt g e).1) hB
  refine ⟨h.1, h.2.1, fun j x hx => ?_⟩
  obtain ⟨A, c, h1, h2, h3⟩ := h.2.2 j x hx
  refine ⟨A, c, h1, ?_, h3⟩
  rcases h2 with ⟨w1, k1, k2, k3⟩ | ⟨k1, k2⟩
  · exact .inl ⟨w1, k1, k2.trans hbl, k3⟩
  · refine .inr ⟨k1.kept hg ?_, k2⟩
    cases hu : (Value.slice A x.2.length c).ownBlock with
    | none => exact .inl rfl
    | some g => exact .inr fun e => own_apart2 ho k1 (by decide) g e.symm hu
theorem wp_append_vols {w : World} {o : Oper} {a : Act} {K : Act → World → Prop} {Q : Exit → Act → World → Prop} (s x : Operand)
    (ho : o.op = .call { callee := .builtin .append, args := #[s, x], argTypes := #[22, 22] }) (base : Nat)
    (v : Value) (l1 : List Vl) (hs : a.eval s = v) (hown : OV base w v l1)
    (A : Option Addr) (m c : Nat) (l2 : List Vl) (hx : a.eval x = .slice A m c) (h2 : VolsIn base w A m c l2) (hnm : l1.length + l2.length ≤ 1000000) (hbase : base ≤ w.heap.size)
    (h : ∀ v' w', OV base w' v' (l1 ++ l2) → Below base w w' → K (a.put o.dst v') w') : o.wp Tryd.prog a w K Q := by
  obtain ⟨i0, hi, hz0, hz1, hz2⟩ := info_parts info_vol
  obtain ⟨vs, hown, hcv⟩ := hown
  obtain ⟨rfl, hA, us, hus, hcell⟩ := h2
  cases A with
  | none =>
    obtain ⟨rfl, rfl⟩ := hA rfl
    have hrun : (Builtin.append_ #[22, 22] o.type #[v, .slice none 0 0]).run Tryd.prog w = .ok v w := by
      rcases hown.2 with ⟨rfl, h0⟩ | ⟨g, cap, cur, rfl, _, hrow, hcap, _⟩
      · simp [Builtin.append_, run_underlying Tryd.underlying22, sizeOf, typeInfo, hi, Builtin.lenOf, Builtin.firstCells]
      · simp [Builtin.append_, run_underlying Tryd.underlying22, sizeOf, typeInfo, hi, Builtin.lenOf, Builtin.firstCells, storeCells, hcap]
    unfold Oper.wp execOp
    simp only [ho, resolve, invoke, builtin, Sem.run_bind, Sem.run_pure, Result.andThen_ok, List.map_toArray, List.map_cons, List.map_nil, hs, hx, List.length_nil, hrun]
    exact h _ _ (by rw [List.append_nil]; exact ⟨vs, hown, hcv⟩) (Below.refl _ _)
  | some ad =>
    have h2l : us.flatten.length = l2.length * 2 := by rw [flat_length (sz := 2) _ hus.2.1, hus.1]
    refine wp_append_own_wide w s x 22 ho base 45 i0 (.agg #[.string ⟨#[]⟩, .slice none 0 0]) 2 40 Tryd.underlying22 hi hz0 hz1 hz2 rfl (by decide) v l1.length vs.flatten hs hown ad l2.length c us.flatten hx h2l (hcell ad rfl) (one_volV hus) (by unfold maxLen; omega) (by omega) hbase fun v' w' o2 hg _ => ?_
    refine h v' w' ⟨vs ++ us, by rw [List.length_append, List.flatten_append]; exact o2, ?_⟩ (below_of_grown hg (fun g e => (hown.lt g e).1) hbase)
    exact (hcv.append hus).grown hown hg hbase
end Go.Proofs.YtpmedgibnnonkaaDoor

/- A sector of one byte, as the program has it. -/
set_option maxRecDepth 4000
namespace Go.Proofs.YtpmedgibnnonkaaDoor
open Go Go.RowKit
end Go.Proofs.YtpmedgibnnonkaaDoor

/- Two arrays of integers: what their comparison tells. -/
set_option maxRecDepth 4000
namespace Go.Proofs.YtpmedgibnnonkaaDoor
open Go
theorem forIn_until {P : Program} {w : World} {β : Type} (b r : β) (f : Nat → β → Sem (ForInStep β)) (p : Nat → Bool) : ∀ l : List Nat, (∀ i ∈ l, (f i b).run P w = .ok (if p i then .yield b else .done r) w) → (forIn l b f).run P w = .ok (if l.all p then b else r) w
  | [], _ => by simp [Sem.run_pure]
  | i :: l, h => by
    simp only [List.forIn_cons, Sem.run_bind, h i (by simp), Result.andThen]
    cases hp : p i with
    | true =>
      simp only [List.all_cons, hp, Bool.true_and, if_true]
      exact forIn_until b r f p l fun j hj => h j (by simp [hj])
    | false => simp [List.all_cons, hp, Sem.run_pure]
theorem equal_ints {P : Program} (w : World) (d : Nat) (t e : TypeId) (k : IntKind) (n : Nat) (xs ys : Array Value) (f g : Nat → Int) (ht : P.underlying t = some (.array n e)) (he : P.underlying e = some (.int k)) (hs : (P.info? e).map (·.size) = some 1)
    (hx : ∀ i, i < n → xs[i]? = some (.int k (f i))) (hy : ∀ i, i < n → ys[i]? = some (.int k (g i))) : (Op.equalIn (d + 2) t (.agg xs) (.agg ys)).run P w = .ok ((List.range n).all fun i => f i == g i) w := by
  obtain ⟨i0, hi, hs⟩ := Option.map_eq_some_iff.1 hs
  have hsz : (sizeOf e).run P w = .ok 1 w := by simp [sizeOf, typeInfo, hi, hs]
  rw [show Op.equalIn (d + 2) t (.agg xs) (.agg ys) = Op.equalIn ((d + 1) + 1) t (.agg xs) (.agg ys) from rfl]
  unfold Op.equalIn
  simp only [Sem.run_bind, run_underlying ht, Result.andThen_ok, hsz]
  rw [Std.Legacy.Range.forIn_eq_forIn_range', forIn_until (p := fun i => f i == g i) (r := ⟨some false, ()⟩)]
  · have e1 : (List.range' 0 (Std.Legacy.Range.size [:n]) 1).all (fun i => f i == g i) = (List.range n).all fun i => f i == g i := by
      rw [List.range_eq_range']; simp [Std.Legacy.Range.size]
    simp only [e1]
    cases (List.range n).all fun i => f i == g i <;> simp [Sem.run_pure]
  · intro i hi
    have hin : i < n := by simp [Std.Legacy.Range.size] at hi; omega
    have hp : (Go.part e xs (i * 1)).run P w = .ok (.int k (f i)) w := by simp [Go.part, isAgg, run_underlying he, hx i hin]
    have hq : (Go.part e ys (i * 1)).run P w = .ok (.int k (g i)) w := by simp [Go.part, isAgg, run_underlying he, hy i hin]
    simp only [Sem.run_bind, hp, hq, Result.andThen_ok, run_equalIn_int w d e k k (f i) (g i) he]
    cases f i == g i <;> simp
theorem equal_bytes (t : TypeId) (n : Nat) (p q : List (BitVec 8)) (hp : p.length = n) (hq : q.length = n) (ht : Tryd.prog.underlying t = some (.array n 5)) (w : World) : (Op.equalIn 10000 t (.agg (bs p)) (.agg (bs q))).run Tryd.prog w = .ok (decide (p = q)) w := by
  rw [equal_ints w 9998 t 5 .u8 n (bs p) (bs q) (fun i => bd (p.getD i 0)) (fun i => bd (q.getD i 0)) ht Tryd.underlying5 size_u8 (fun i hi => get_bs p i (by omega)) (fun i hi => get_bs q i (by omega))]
  congr 1
  by_cases h : p = q
  · subst h; simp
  · rw [decide_eq_false h, ← Bool.not_eq_true, List.all_eq_true]
    intro hall
    refine h (List.ext_getElem (by omega) fun i h1 h2 => ?_)
    have := hall i (List.mem_range.2 (by omega))
    simp [h1, h2] at this
    exact bd_inj this
end Go.Proofs.YtpmedgibnnonkaaDoor

/- Two sectors compared. -/
set_option maxRecDepth 4000
namespace Go.Proofs.YtpmedgibnnonkaaDoor
open Go Go.RowKit
theorem eql_blk (p q : List (BitVec 8)) (hp : p.length = 32) (hq : q.length = 32) (w : World) : (Op.equalIn 10000 24 (.agg (bs p)) (.agg (bs q))).run Tryd.prog w = .ok (decide (p = q)) w := equal_bytes _ 32 p q hp hq Tryd.underlying24 w
end Go.Proofs.YtpmedgibnnonkaaDoor

/- The volumes of a block: the program's. -/
set_option maxRecDepth 4000
namespace Go.Proofs.YtpmedgibnnonkaaDoor
open Go Go.RowKit
theorem get_nilP {α : Type} {P : Nat → α → Prop} : ∀ (k : Nat) (x : α), ([] : List α)[k]? = some x → P k x := fun k x h => by simp at h
theorem get_consP {α : Type} {P : Nat → α → Prop} {a : α} {l : List α} (h0 : P 0 a) (t : ∀ (k : Nat) (x : α), l[k]? = some x → P (k + 1) x) : ∀ (k : Nat) (x : α), (a :: l)[k]? = some x → P k x := fun k x h => by
  cases k with
  | zero => have h : a = x := by simpa using h
            subst h; exact h0
  | succ k => exact t k x (by simpa using h)
theorem own_rowI {w : World} {g base : Nat} {L : List Int} (h : Row w g 3 (intsV L).toArray) (hb : base ≤ g) (hm : L.length ≤ maxLen) : w.ownsRow base 3 1 (.slice (some ⟨g, 0, none⟩) L.length L.length) L.length (intsV L) :=
  ⟨by rw [len_intsV, Nat.mul_one], .inr ⟨g, L.length, _, rfl, hb, h, Nat.le_refl _, hm, by simp [intsV], by show (intsV L).take (L.length * 1) = intsV L; exact List.take_of_length_le (by rw [len_intsV]; omega)⟩⟩
theorem ints_rowI {w : World} {g : Nat} {L : List Int} (h : Row w g 3 (intsV L).toArray) (hm : L.length ≤ maxLen) (hb : ∀ x ∈ L, -9223372036854775808 ≤ x ∧ x < 9223372036854775808) : IntsAt w (.slice (some ⟨g, 0, none⟩) L.length L.length) L :=
  ints_own (own_rowI h (Nat.zero_le g) hm) hb
theorem volAt_of {w : World} {A : Option Addr} {c : Nat} {p : List (BitVec 8)} {L : List Int} (hi : IntsAt w (.slice A L.length c) L) (hp : p.length ≤ maxLen) : VolAt w [.string (strB p), .slice A L.length c] (strB p, L) := ⟨A, c, rfl, hi, by rw [strB_size]; exact hp⟩
theorem cellsV_nil (base : Nat) (W : World) : CellsV base W [] [] := ⟨rfl, (fun c h => by cases h), (fun j x h => by simp at h)⟩
theorem cellsV_cons {base : Nat} {W : World} {vs : List (List Value)} {l : List Vl} {A : Option Addr} {c : Nat} {p : List (BitVec 8)} {L : List Int} (hi : InV base W A c L) (hp : p.length ≤ maxLen) (t : CellsV base W vs l) : CellsV base W ([.string (strB p), .slice A L.length c] :: vs) ((strB p, L) :: l) :=
  ⟨by simp [t.1], (fun d hd => by
    cases hd with
    | head => rfl
    | tail _ hd => exact t.2.1 d hd), fun j x hx => by
    cases j with
    | zero => have hx : (strB p, L) = x := by simpa using hx
              subst hx; exact ⟨A, c, rfl, hi, by rw [strB_size]; exact hp⟩
    | succ j => simpa using t.2.2 j x (by simpa using hx)⟩
/- the volumes of a block -/
def decQ (q : List (BitVec 8)) : List Tv := (List.range (q.getD 0 0#8).toNat).map fun i => volQ ((q.drop (1 + 9 * i)).take 9)
def okD (q : List (BitVec 8)) : Bool := decide ((q.getD 0 0#8).toNat ≤ 3) && (goodT (decQ q) && decide (encT (decQ q) = q))
def decLT (q : List (BitVec 8)) : List Tv := if okD q then decQ q else []
def decE (q : List (BitVec 8)) : Int := if okD q then 0 else 11
theorem okD_no {q : List (BitVec 8)} (h : ¬ ((q.getD 0 0#8).toNat ≤ 3 ∧ goodT (decQ q) = true ∧ encT (decQ q) = q)) : okD q = false := by
  cases hk : okD q with
  | false => rfl
  | true =>
    unfold okD at hk
    simp only [Bool.and_eq_true, decide_eq_true_eq] at hk
    exact (h hk).elim
theorem okD_yes {q : List (BitVec 8)} (h1 : (q.getD 0 0#8).toNat ≤ 3) (h2 : goodT (decQ q) = true) (h3 : encT (decQ q) = q) : okD q = true := by
  unfold okD
  simp only [Bool.and_eq_true, decide_eq_true_eq]
  exact ⟨h1, h2, h3⟩
theorem dec_bad {q : List (BitVec 8)} (h : okD q = false) : decLT q = [] ∧ decE q = 11 := by unfold decLT decE; rw [h]; exact ⟨rfl, rfl⟩
theorem dec_good {q : List (BitVec 8)} (h : okD q = true) : decLT q = decQ q ∧ decE q = 0 := by unfold decLT decE; rw [h]; exact ⟨rfl, rfl⟩
theorem encE_z {l : List Tv} : encE l = 0 ↔ goodT l = true := by
  unfold encE
  cases goodT l <;> simp
theorem small_vq {l : List (List (BitVec 8))} : ∀ x ∈ l.map volQ, x.2.length ≤ 1000000 := fun x hx => by
  obtain ⟨y, _, rfl⟩ := List.mem_map.1 hx
  exact Nat.le_trans (fromL_len y) (by decide)
set_option maxRecDepth 10000 in
set_option maxHeartbeats 1600000 in
theorem dect0 (q : List (BitVec 8)) (w : World) (hq : q.length = 32) (h0 : q.getD 0 0#8 = 0#8) :
    Calls Tryd.prog 12 #[.agg (bs q)] w fun e w' => ∃ v, e = .returned (.tuple #[v, .int .i64 (decE q)]) ∧ OV w.heap.size w' v (volL (decLT q)) ∧ Below w.heap.size w w' := by
  have HS := St.nil w noF
  have hQ : decQ q = [] := by unfold decQ; rw [h0]; rfl
  refine enter_en Tryd.func12 rfl Tryd.ntmps12 (Nat.le_of_ble_eq_true rfl) fun a0 (HA0 : En 43 [(0, .agg (bs q))] a0) => ?_
  refine sq_ <| rl_ <| wl_ <| n_ HA0 rfl (fun _ h => dd_box HS rfl (HA0.ev 0 rfl) (cs := (bs q)) rfl h) fun g1 W1 HS1 a1 H1 => q_ H1 2 rfl fun a2 H2 => ln_ <| nx <| sq_ <| sq_ <| rl_ <| wl_ <| i_ H2 rfl (xA 32 1 0 rfl (H2.ev 1 rfl) rfl) fun a3 H3 => wl_ <| i_ H3 rfl (v := .int .u8 0) (dd_get HS1 0 0 rfl rfl (H3.ev 8 rfl) ((bs_get hq 0 (by decide)).trans (by rw [h0]; rfl)) Tryd.underlying5 rfl) fun a4 H4 => wl_ <| i_ H4 rfl (dd_cmp rfl (H4.ev 9 rfl) rfl (gt_f (by decide))) fun a5 H5 => ln_ <| nx <| cf_ H5 rfl <| wp_skip <| nx <| sq_ <| rl_ <| wl_ <| i_ H5 rfl (xA 32 1 0 rfl (H5.ev 1 rfl) rfl) fun a6 H6 => wl_ <| i_ H6 rfl (v := .int .u8 0) (dd_get HS1 0 0 rfl rfl (H6.ev 11 rfl) ((bs_get hq 0 (by decide)).trans (by rw [h0]; rfl)) Tryd.underlying5 rfl) fun a7 H7 => wl_ <| n_ H7 rfl (A := fun g13 => .slice (some ⟨g13, 0, none⟩) 0 0) (fun _ h => dd_mk HS1 rfl (H7.ev 12 rfl) (H7.ev 12 rfl) (z := .agg #[.string (⟨#[]⟩), .slice none 0 0]) (sz := 2) (bytes := 40) (cs := #[]) Tryd.underlying22 (by kernel_rfl) (by decide) (by decide) (by decide) (by kernel_rfl) h) fun g13 W8 HS8 a8 H8 => ?_
  clear HS HA0 a0 H1 a1 H2 a2 H3 a3 H4 a4 H5 a5 H6 a6
  refine wl_ <| p_ H8 rfl rfl fun a9 H9 => ln_ <| nx <| sq_ <| sq_ <| rl_ <| wl_ <| p_ H9 rfl rfl fun a10 H10 => wl_ <| i_ H10 rfl (v := .int .i64 0) (dd_len rfl (H10.ev 14 rfl) Tryd.underlying22) fun a11 H11 => wl_ <| p_ H11 rfl rfl fun a12 H12 => ln_ <| nx <| wp_block <| wp_unr 1 <| unr_go <| sq_ <| rl_ <| wl_ <| i_ H12 rfl (dd_cmp rfl (H12.ev 16 rfl) (H12.ev 15 rfl) (lt_f (by decide))) fun a13 H13 => ln_ <| nx <| sq_ <| cf_ H13 rfl <| wp_exit <| tx <| tx <| bx <| nx <| sq_ <| sq_ <| rl_ <| wl_ <| p_ H13 rfl rfl fun a14 H14 => wl_ <| c_ H14 rfl HS8 (dcs Tryd.func10 rfl (args1 (H14.ev 31 rfl)) (enct_any _ _ _ [] W8 (vols_row (l := volL []) (HS8.row 1 rfl) (Nat.le_refl _) (by show 0 ≤ maxLen; decide) (get_nilP)) (by decide) (small_vq (l := []))) (.tuple #[.agg (bs (encT [])), .int .i64 (encE [])])) fun W15 HS15 a15 H15 => wl_ <| p_ H15 rfl rfl fun a16 H16 => ?_
  clear HS1 H7 a7 H8 a8 H9 a9 H10 a10 H11 a11 H12 a12 H13 a13 H14 a14 HS8
  refine wl_ <| i_ H16 rfl (dd_ext rfl (H16.ev 30 rfl) rfl) fun a17 H17 => wl_ <| i_ H17 rfl (dd_ext rfl (H17.ev 30 rfl) rfl) fun a18 H18 => wl_ <| n_ H18 rfl (fun _ h => dd_new HS15 (bs (zer 32)) rfl (z := .agg (bs (zer 32))) (by kernel_rfl) rfl h) fun g6 W19 HS19 a19 H19 => wl_ <| t_ rfl (fun _ h => dd_setrow HS19 2 rfl rfl (H19.ev 6 rfl) (H19.ev 33 rfl) (by kernel_rfl) (((size_bs _).trans (length_encT _)) : (bs (encT [])).size = 32) (((size_bs _).trans (length_zer 32)) : (bs (zer 32)).size = 32) (one_bs _) h) fun W20 HS20 => wl_ <| p_ H19 rfl rfl fun a21 H21 => ln_ <| ?_
  clear H15 a15 H16 a16 H17 a17 HS15 H18 a18 HS19 H19 a19
  have H22 := H21.sel [1, 4, 6, 7] rfl
  refine nx <| sq_ <| rl_ <| wl_ <| p_ H22 rfl rfl fun a23 H23 => ?_
  clear H21 H22 a21
  by_cases hc25 : (encE [] : Int) = 0
  ·
   refine wl_ <| i_ H23 rfl (dd_cmp rfl (H23.ev 35 rfl) rfl (ne_f hc25)) fun a26 H26 => wl_ <| p_ H26 rfl rfl fun a27 H27 => wl_ <| ig H27 (wg_ H27 rfl rfl rfl rfl) rfl (v := .agg (bs (encT []))) (dd_load HS20 2 0 rfl rfl (H27.ev 6 rfl) (slab_whole _) Tryd.underlying24 rfl (by rw [show (bs (encT [])).size = 32 from ((size_bs _).trans (length_encT _))]; kernel_rfl)) fun a28 H28 => wl_ <| ig H28 (wg_ H28 rfl rfl rfl rfl) rfl (v := .agg (bs q)) (dd_load HS20 0 0 rfl rfl (H28.ev 1 rfl) (slab_whole _) Tryd.underlying24 rfl (by rw [show (bs q).size = 32 from ((size_bs _).trans hq)]; kernel_rfl)) fun a29 H29 => ?_
   clear H23 a23 H26 a26 H27 a27 H28 a28
   cases hb31 : decide (encT [] = q)
   case false =>
    refine wl_ <| ig H29 (wg_ H29 rfl rfl rfl rfl) rfl (v := .bool true) (dd_nea (b := false) rfl (H29.ev 38 rfl) (H29.ev 39 rfl) (by kernel_rfl) (fun w => by have h9 := eql_blk (encT []) q (length_encT _) hq w; rw [hb31] at h9; exact h9) rfl) fun a32 H32 => wl_ <| p_ H32 rfl rfl fun a33 H33 => ln_ <| nx <| ct_ H33 rfl <| sq_ <| rl_ <| q_ H33 2 rfl fun a34 H34 => ln_ <| nx <| wp_ret <| tr <| ret_run H34.env0 (res_tt Tryd.results12 (H34.get 2 rfl) (H34.get 3 rfl)) <| ?_
    clear H29 a29 H32 a32 H33 a33
    have hbad := okD_no (q := q) (fun ⟨_, h2, h3⟩ => by exact of_decide_eq_false hb31 (hQ ▸ h3))
    exact ⟨_, by rw [(dec_bad hbad).2], by rw [(dec_bad hbad).1]; exact OV.nil _ _, HS20.below⟩
   case true =>
    refine wl_ <| ig H29 (wg_ H29 rfl rfl rfl rfl) rfl (v := .bool false) (dd_nea (b := true) rfl (H29.ev 38 rfl) (H29.ev 39 rfl) (by kernel_rfl) (fun w => by have h9 := eql_blk (encT []) q (length_encT _) hq w; rw [hb31] at h9; exact h9) rfl) fun a35 H35 => wl_ <| p_ H35 rfl rfl fun a36 H36 => ln_ <| nx <| cf_ H36 rfl <| wp_skip <| nx <| sq_ <| rl_ <| q_ H36 3 rfl fun a37 H37 => ln_ <| nx <| wp_ret <| ret_run H37.env0 (res_tt Tryd.results12 (H37.get 2 rfl) (H37.get 3 rfl)) <| ?_
    clear H29 a29 H35 a35 H36 a36
    have hok := okD_yes (q := q) (by rw [h0]; decide) (by rw [hQ]; exact encE_z.1 hc25) (by rw [hQ]; exact of_decide_eq_true hb31)
    exact ⟨_, by rw [(dec_good hok).2], by rw [(dec_good hok).1, hQ]; exact ⟨_, ⟨rfl, .inr ⟨_, 0, _, rfl, st_fresh HS20 1 rfl, HS20.row 1 rfl, Nat.le_refl _, by decide, rfl, rfl⟩⟩, cellsV_nil _ _⟩, HS20.below⟩
  ·
   refine wl_ <| i_ H23 rfl (dd_cmp rfl (H23.ev 35 rfl) rfl (ne_t hc25)) fun a38 H38 => wl_ <| p_ H38 rfl rfl fun a39 H39 => wl_ <| k_ H39 (wg_ H39 rfl rfl rfl rfl) rfl fun a40 H40 => wl_ <| k_ H40 (wg_ H40 rfl rfl rfl rfl) rfl fun a41 H41 => wl_ <| k_ H41 (wg_ H41 rfl rfl rfl rfl) rfl fun a42 H42 => wl_ <| p_ H42 rfl rfl fun a43 H43 => ln_ <| nx <| ct_ H43 rfl <| sq_ <| rl_ <| q_ H43 2 rfl fun a44 H44 => ln_ <| nx <| wp_ret <| tr <| ret_run H44.env0 (res_tt Tryd.results12 (H44.get 2 rfl) (H44.get 3 rfl)) <| ?_
   clear H23 a23 H38 a38 H39 a39 H40 a40 H41 a41 H42 a42 H43 a43
   have hbad := okD_no (q := q) (fun ⟨_, h2, h3⟩ => by exact hc25 (encE_z.2 (hQ ▸ h2)))
   exact ⟨_, by rw [(dec_bad hbad).2], by rw [(dec_bad hbad).1]; exact OV.nil _ _, HS20.below⟩
set_option maxRecDepth 10000 in
set_option maxHeartbeats 1600000 in
theorem dect1 (q : List (BitVec 8)) (w : World) (hq : q.length = 32) (h0 : q.getD 0 0#8 = 1#8) :
    Calls Tryd.prog 12 #[.agg (bs q)] w fun e w' => ∃ v, e = .returned (.tuple #[v, .int .i64 (decE q)]) ∧ OV w.heap.size w' v (volL (decLT q)) ∧ Below w.heap.size w w' := by
  have HS := St.nil w noF
  have hQ : decQ q = [volQ ((q.drop 1).take 9)] := by unfold decQ; rw [h0]; rfl
  refine enter_en Tryd.func12 rfl Tryd.ntmps12 (Nat.le_of_ble_eq_true rfl) fun a0 (HA0 : En 43 [(0, .agg (bs q))] a0) => ?_
  refine sq_ <| rl_ <| wl_ <| n_ HA0 rfl (fun _ h => dd_box HS rfl (HA0.ev 0 rfl) (cs := (bs q)) rfl h) fun g1 W1 HS1 a1 H1 => q_ H1 2 rfl fun a2 H2 => ln_ <| nx <| sq_ <| sq_ <| rl_ <| wl_ <| i_ H2 rfl (xA 32 1 0 rfl (H2.ev 1 rfl) rfl) fun a3 H3 => wl_ <| i_ H3 rfl (v := .int .u8 1) (dd_get HS1 0 0 rfl rfl (H3.ev 8 rfl) ((bs_get hq 0 (by decide)).trans (by rw [h0]; rfl)) Tryd.underlying5 rfl) fun a4 H4 => wl_ <| i_ H4 rfl (dd_cmp rfl (H4.ev 9 rfl) rfl (gt_f (by decide))) fun a5 H5 => ln_ <| nx <| cf_ H5 rfl <| wp_skip <| nx <| sq_ <| rl_ <| wl_ <| i_ H5 rfl (xA 32 1 0 rfl (H5.ev 1 rfl) rfl) fun a6 H6 => wl_ <| i_ H6 rfl (v := .int .u8 1) (dd_get HS1 0 0 rfl rfl (H6.ev 11 rfl) ((bs_get hq 0 (by decide)).trans (by rw [h0]; rfl)) Tryd.underlying5 rfl) fun a7 H7 => wl_ <| n_ H7 rfl (A := fun g13 => .slice (some ⟨g13, 0, none⟩) 1 1) (fun _ h => dd_mk HS1 rfl (H7.ev 12 rfl) (H7.ev 12 rfl) (z := .agg #[.string (⟨#[]⟩), .slice none 0 0]) (sz := 2) (bytes := 40) (cs := #[.string (⟨#[]⟩), .slice none 0 0]) Tryd.underlying22 (by kernel_rfl) (by decide) (by decide) (by decide) (by kernel_rfl) h) fun g13 W8 HS8 a8 H8 => ?_
  clear HS HA0 a0 H1 a1 H2 a2 H3 a3 H4 a4 H5 a5 H6 a6
  refine wl_ <| p_ H8 rfl rfl fun a9 H9 => ln_ <| nx <| sq_ <| sq_ <| rl_ <| wl_ <| p_ H9 rfl rfl fun a10 H10 => wl_ <| i_ H10 rfl (v := .int .i64 1) (dd_len rfl (H10.ev 14 rfl) Tryd.underlying22) fun a11 H11 => wl_ <| p_ H11 rfl rfl fun a12 H12 => ln_ <| nx <| wp_block <| wp_unr 2 <| unr_go <| sq_ <| rl_ <| wl_ <| i_ H12 rfl (dd_cmp rfl (H12.ev 16 rfl) (H12.ev 15 rfl) (lt_t (by decide))) fun a13 H13 => ln_ <| nx <| sq_ <| ct_ H13 rfl <| wp_skip <| nx <| sq_ <| wp_block <| sq_ <| rl_ <| q_ H13 2 rfl fun a14 H14 => ln_ <| nx <| rl_ <| q_ H14 3 rfl fun a15 H15 => wl_ <| i_ H15 rfl (v := .int .i64 0) (dd_ari rfl (H15.ev 21 rfl) rfl rfl (by decide)) fun a16 H16 => ?_
  clear HS1 H7 a7 H8 a8 H9 a9 H10 a10 H11 a11 H12 a12 H13 a13 H14 a14
  refine wl_ <| i_ H16 rfl (v := .int .i64 1) (dd_ari rfl rfl (H16.ev 22 rfl) rfl (by decide)) fun a17 H17 => wl_ <| i_ H17 rfl (v := .slice (some ⟨g1, 1, none⟩) 31 31) (dd_slAl (l := 1) (n := 32) (sz := 1) (j := 1) rfl (H17.ev 1 rfl) (H17.ev 23 rfl) (by kernel_rfl) (by decide) rfl rfl) fun a18 H18 => wl_ <| i_ H18 rfl (v := .pointer (some ⟨g1, 1, none⟩)) (dd_s2a (m := 9) (sz := 1) rfl (H18.ev 24 rfl) (by kernel_rfl) (by decide)) fun a19 H19 => wl_ <| i_ H19 rfl (v := .agg (bs ((q.drop 1).take 9))) (dd_load HS8 0 1 rfl rfl (H19.ev 25 rfl) (bs_slab hq 1 9 (by decide)) Tryd.underlying47 rfl (by rw [show (bs ((q.drop 1).take 9)).size = 9 from ((size_bs _).trans (len_take (n := 32 - 1) (len_drop hq rfl) (by decide)))]; kernel_rfl)) fun a20 H20 => ?_
  clear H15 a15 H16 a16 H17 a17 H18 a18 H19 a19
  refine wl_ <| d_ H20 rfl (R := fun v w9 => ∃ gf22, v = .agg #[.string (strB (volQ ((q.drop 1).take 9)).1), .slice (some ⟨gf22, 0, none⟩) ((fromL ((q.drop 1).take 9)).length) ((fromL ((q.drop 1).take 9)).length)] ∧ (W8.heap.size ≤ gf22) ∧ (Row w9 gf22 3 (intsV (fromL ((q.drop 1).take 9))).toArray) ∧ Below W8.heap.size W8 w9) (dc_ Tryd.func21 rfl (args1 (H20.ev 26 rfl)) (frombytes_any ((q.drop 1).take 9) W8 (len_take (n := 32 - 1) (len_drop hq rfl) (by decide))) (fun _ w9 ⟨g9, he, h1, h2, hb⟩ => ⟨_, he, g9, rfl, h1, h2, hb⟩)) ?_
  rintro _ W21 ⟨gf22, rfl, hg22, hr22, hb21⟩ a21 H21
  have HS21 := HS8.same hb21
  clear H20 a20
  have HS21j : St w noF [⟨g1, 24, bs q⟩, ⟨g13, 45, #[.string (⟨#[]⟩), .slice none 0 0]⟩, ⟨gf22, 3, (intsV (fromL ((q.drop 1).take 9))).toArray⟩] W21 := HS8.joins hb21 hr22 hg22
  clear HS21 hr22 hg22
  clear HS8 hb21
  refine wl_ <| i_ H21 rfl (xS 2 0 rfl (H21.ev 19 rfl) (H21.ev 20 rfl)) fun a23 H23 => wl_ <| t_ rfl (fun _ h => dd_setrow HS21j 1 rfl rfl (H23.ev 28 rfl) (H23.ev 27 rfl) (by kernel_rfl) (rfl : #[.string (strB (volQ ((q.drop 1).take 9)).1), .slice (some ⟨gf22, 0, none⟩) ((fromL ((q.drop 1).take 9)).length) ((fromL ((q.drop 1).take 9)).length)].size = 2) (rfl : #[.string (⟨#[]⟩), .slice none 0 0].size = 2) (one_l (ao_cons rfl (ao_cons rfl ao_nil))) h) fun W24 HS24 => ln_ <| ?_
  clear H21 a21 HS21j
  have H25 := H23.sel [1, 4, 15, 16] rfl
  refine bn <| nx <| rl_ <| wl_ <| i_ H25 rfl (v := .int .i64 1) (dd_ari rfl (H25.ev 16 rfl) rfl rfl (by decide)) fun a26 H26 => wl_ <| p_ H26 rfl rfl fun a27 H27 => ln_ <| nx <| unr_go <| sq_ <| rl_ <| wl_ <| i_ H27 rfl (dd_cmp rfl (H27.ev 16 rfl) (H27.ev 15 rfl) (lt_f (by decide))) fun a28 H28 => ln_ <| nx <| sq_ <| cf_ H28 rfl <| wp_exit <| tx <| tx <| bx <| nx <| sq_ <| sq_ <| rl_ <| wl_ <| p_ H28 rfl rfl fun a29 H29 => wl_ <| c_ H29 rfl HS24 (dcs Tryd.func10 rfl (args1 (H29.ev 31 rfl)) (enct_any _ _ _ [volQ ((q.drop 1).take 9)] W24 (vols_row (l := volL [volQ ((q.drop 1).take 9)]) (HS24.row 1 rfl) (Nat.le_refl _) (by show 1 ≤ maxLen; decide) (get_consP (volAt_of (ints_rowI (HS24.row 2 rfl) (Nat.le_trans (fromL_len _) (by decide)) (fromL_bound _)) (Nat.le_trans (volQ_name _ (by rw [List.length_take, List.length_drop, hq]; rfl)) (by decide))) (get_nilP))) (by decide) (small_vq (l := [(q.drop 1).take 9]))) (.tuple #[.agg (bs (encT [volQ ((q.drop 1).take 9)])), .int .i64 (encE [volQ ((q.drop 1).take 9)])])) fun W30 HS30 a30 H30 => wl_ <| p_ H30 rfl rfl fun a31 H31 => wl_ <| i_ H31 rfl (dd_ext rfl (H31.ev 30 rfl) rfl) fun a32 H32 => wl_ <| i_ H32 rfl (dd_ext rfl (H32.ev 30 rfl) rfl) fun a33 H33 => ?_
  clear H23 H25 a23 H26 a26 H27 a27 H28 a28 H29 a29 HS24 H30 a30 H31 a31
  refine wl_ <| n_ H33 rfl (fun _ h => dd_new HS30 (bs (zer 32)) rfl (z := .agg (bs (zer 32))) (by kernel_rfl) rfl h) fun g6 W34 HS34 a34 H34 => wl_ <| t_ rfl (fun _ h => dd_setrow HS34 3 rfl rfl (H34.ev 6 rfl) (H34.ev 33 rfl) (by kernel_rfl) (((size_bs _).trans (length_encT _)) : (bs (encT [volQ ((q.drop 1).take 9)])).size = 32) (((size_bs _).trans (length_zer 32)) : (bs (zer 32)).size = 32) (one_bs _) h) fun W35 HS35 => wl_ <| p_ H34 rfl rfl fun a36 H36 => ln_ <| nx <| sq_ <| rl_ <| wl_ <| p_ H36 rfl rfl fun a37 H37 => ?_
  clear H32 a32 HS30 H33 a33 HS34 H34 a34 H36 a36
  by_cases hc39 : (encE [volQ ((q.drop 1).take 9)] : Int) = 0
  ·
   refine wl_ <| i_ H37 rfl (dd_cmp rfl (H37.ev 35 rfl) rfl (ne_f hc39)) fun a40 H40 => wl_ <| p_ H40 rfl rfl fun a41 H41 => wl_ <| ig H41 (wg_ H41 rfl rfl rfl rfl) rfl (v := .agg (bs (encT [volQ ((q.drop 1).take 9)]))) (dd_load HS35 3 0 rfl rfl (H41.ev 6 rfl) (slab_whole _) Tryd.underlying24 rfl (by rw [show (bs (encT [volQ ((q.drop 1).take 9)])).size = 32 from ((size_bs _).trans (length_encT _))]; kernel_rfl)) fun a42 H42 => wl_ <| ig H42 (wg_ H42 rfl rfl rfl rfl) rfl (v := .agg (bs q)) (dd_load HS35 0 0 rfl rfl (H42.ev 1 rfl) (slab_whole _) Tryd.underlying24 rfl (by rw [show (bs q).size = 32 from ((size_bs _).trans hq)]; kernel_rfl)) fun a43 H43 => ?_
   clear H37 a37 H40 a40 H41 a41 H42 a42
   cases hb45 : decide (encT [volQ ((q.drop 1).take 9)] = q)
   case false =>
    refine wl_ <| ig H43 (wg_ H43 rfl rfl rfl rfl) rfl (v := .bool true) (dd_nea (b := false) rfl (H43.ev 38 rfl) (H43.ev 39 rfl) (by kernel_rfl) (fun w => by have h9 := eql_blk (encT [volQ ((q.drop 1).take 9)]) q (length_encT _) hq w; rw [hb45] at h9; exact h9) rfl) fun a46 H46 => wl_ <| p_ H46 rfl rfl fun a47 H47 => ln_ <| ?_
    clear H43 a43 H46 a46
    have H48 := H47.sel [4, 41] rfl
    refine nx <| ct_ H48 rfl <| sq_ <| rl_ <| q_ H48 2 rfl fun a49 H49 => ln_ <| nx <| wp_ret <| tr <| ret_run H49.env0 (res_tt Tryd.results12 (H49.get 2 rfl) (H49.get 3 rfl)) <| ?_
    clear H47 H48 a47
    have hbad := okD_no (q := q) (fun ⟨_, h2, h3⟩ => by exact of_decide_eq_false hb45 (hQ ▸ h3))
    exact ⟨_, by rw [(dec_bad hbad).2], by rw [(dec_bad hbad).1]; exact OV.nil _ _, HS35.below⟩
   case true =>
    refine wl_ <| ig H43 (wg_ H43 rfl rfl rfl rfl) rfl (v := .bool false) (dd_nea (b := true) rfl (H43.ev 38 rfl) (H43.ev 39 rfl) (by kernel_rfl) (fun w => by have h9 := eql_blk (encT [volQ ((q.drop 1).take 9)]) q (length_encT _) hq w; rw [hb45] at h9; exact h9) rfl) fun a50 H50 => wl_ <| p_ H50 rfl rfl fun a51 H51 => ln_ <| ?_
    clear H43 a43 H50 a50
    have H52 := H51.sel [4, 41] rfl
    refine nx <| cf_ H52 rfl <| wp_skip <| nx <| sq_ <| rl_ <| q_ H52 3 rfl fun a53 H53 => ln_ <| nx <| wp_ret <| ret_run H53.env0 (res_tt Tryd.results12 (H53.get 2 rfl) (H53.get 3 rfl)) <| ?_
    clear H51 H52 a51
    have hok := okD_yes (q := q) (by rw [h0]; decide) (by rw [hQ]; exact encE_z.1 hc39) (by rw [hQ]; exact of_decide_eq_true hb45)
    exact ⟨_, by rw [(dec_good hok).2], by rw [(dec_good hok).1, hQ]; exact ⟨_, ⟨rfl, .inr ⟨_, 1, _, rfl, st_fresh HS35 1 rfl, HS35.row 1 rfl, Nat.le_refl _, by decide, rfl, rfl⟩⟩, cellsV_cons (.inr ⟨own_rowI (HS35.row 2 rfl) (st_fresh HS35 2 rfl) (Nat.le_trans (fromL_len _) (by decide)), fromL_bound _⟩) (Nat.le_trans (volQ_name _ (by rw [List.length_take, List.length_drop, hq]; rfl)) (by decide)) (cellsV_nil _ _)⟩, HS35.below⟩
  ·
   refine wl_ <| i_ H37 rfl (dd_cmp rfl (H37.ev 35 rfl) rfl (ne_t hc39)) fun a54 H54 => wl_ <| p_ H54 rfl rfl fun a55 H55 => wl_ <| k_ H55 (wg_ H55 rfl rfl rfl rfl) rfl fun a56 H56 => wl_ <| k_ H56 (wg_ H56 rfl rfl rfl rfl) rfl fun a57 H57 => wl_ <| k_ H57 (wg_ H57 rfl rfl rfl rfl) rfl fun a58 H58 => wl_ <| p_ H58 rfl rfl fun a59 H59 => ln_ <| ?_
   clear H37 a37 H54 a54 H55 a55 H56 a56 H57 a57 H58 a58
   have H60 := H59.sel [4, 41] rfl
   refine nx <| ct_ H60 rfl <| sq_ <| rl_ <| q_ H60 2 rfl fun a61 H61 => ln_ <| nx <| wp_ret <| tr <| ret_run H61.env0 (res_tt Tryd.results12 (H61.get 2 rfl) (H61.get 3 rfl)) <| ?_
   clear H59 H60 a59
   have hbad := okD_no (q := q) (fun ⟨_, h2, h3⟩ => by exact hc39 (encE_z.2 (hQ ▸ h2)))
   exact ⟨_, by rw [(dec_bad hbad).2], by rw [(dec_bad hbad).1]; exact OV.nil _ _, HS35.below⟩
set_option maxRecDepth 10000 in
set_option maxHeartbeats 1600000 in
theorem dect2 (q : List (BitVec 8)) (w : World) (hq : q.length = 32) (h0 : q.getD 0 0#8 = 2#8) :
    Calls Tryd.prog 12 #[.agg (bs q)] w fun e w' => ∃ v, e = .returned (.tuple #[v, .int .i64 (decE q)]) ∧ OV w.heap.size w' v (volL (decLT q)) ∧ Below w.heap.size w w' := by
  have HS := St.nil w noF
  have hQ : decQ q = [volQ ((q.drop 1).take 9), volQ ((q.drop 10).take 9)] := by unfold decQ; rw [h0]; rfl
  refine enter_en Tryd.func12 rfl Tryd.ntmps12 (Nat.le_of_ble_eq_true rfl) fun a0 (HA0 : En 43 [(0, .agg (bs q))] a0) => ?_
  refine sq_ <| rl_ <| wl_ <| n_ HA0 rfl (fun _ h => dd_box HS rfl (HA0.ev 0 rfl) (cs := (bs q)) rfl h) fun g1 W1 HS1 a1 H1 => q_ H1 2 rfl fun a2 H2 => ln_ <| nx <| sq_ <| sq_ <| rl_ <| wl_ <| i_ H2 rfl (xA 32 1 0 rfl (H2.ev 1 rfl) rfl) fun a3 H3 => wl_ <| i_ H3 rfl (v := .int .u8 2) (dd_get HS1 0 0 rfl rfl (H3.ev 8 rfl) ((bs_get hq 0 (by decide)).trans (by rw [h0]; rfl)) Tryd.underlying5 rfl) fun a4 H4 => wl_ <| i_ H4 rfl (dd_cmp rfl (H4.ev 9 rfl) rfl (gt_f (by decide))) fun a5 H5 => ln_ <| nx <| cf_ H5 rfl <| wp_skip <| nx <| sq_ <| rl_ <| wl_ <| i_ H5 rfl (xA 32 1 0 rfl (H5.ev 1 rfl) rfl) fun a6 H6 => wl_ <| i_ H6 rfl (v := .int .u8 2) (dd_get HS1 0 0 rfl rfl (H6.ev 11 rfl) ((bs_get hq 0 (by decide)).trans (by rw [h0]; rfl)) Tryd.underlying5 rfl) fun a7 H7 => wl_ <| n_ H7 rfl (A := fun g13 => .slice (some ⟨g13, 0, none⟩) 2 2) (fun _ h => dd_mk HS1 rfl (H7.ev 12 rfl) (H7.ev 12 rfl) (z := .agg #[.string (⟨#[]⟩), .slice none 0 0]) (sz := 2) (bytes := 40) (cs := #[.string (⟨#[]⟩), .slice none 0 0, .string (⟨#[]⟩), .slice none 0 0]) Tryd.underlying22 (by kernel_rfl) (by decide) (by decide) (by decide) (by kernel_rfl) h) fun g13 W8 HS8 a8 H8 => ?_
  clear HS HA0 a0 H1 a1 H2 a2 H3 a3 H4 a4 H5 a5 H6 a6
  refine wl_ <| p_ H8 rfl rfl fun a9 H9 => ln_ <| nx <| sq_ <| sq_ <| rl_ <| wl_ <| p_ H9 rfl rfl fun a10 H10 => wl_ <| i_ H10 rfl (v := .int .i64 2) (dd_len rfl (H10.ev 14 rfl) Tryd.underlying22) fun a11 H11 => wl_ <| p_ H11 rfl rfl fun a12 H12 => ln_ <| nx <| wp_block <| wp_unr 3 <| unr_go <| sq_ <| rl_ <| wl_ <| i_ H12 rfl (dd_cmp rfl (H12.ev 16 rfl) (H12.ev 15 rfl) (lt_t (by decide))) fun a13 H13 => ln_ <| nx <| sq_ <| ct_ H13 rfl <| wp_skip <| nx <| sq_ <| wp_block <| sq_ <| rl_ <| q_ H13 2 rfl fun a14 H14 => ln_ <| nx <| rl_ <| q_ H14 3 rfl fun a15 H15 => wl_ <| i_ H15 rfl (v := .int .i64 0) (dd_ari rfl (H15.ev 21 rfl) rfl rfl (by decide)) fun a16 H16 => ?_
  clear HS1 H7 a7 H8 a8 H9 a9 H10 a10 H11 a11 H12 a12 H13 a13 H14 a14
  refine wl_ <| i_ H16 rfl (v := .int .i64 1) (dd_ari rfl rfl (H16.ev 22 rfl) rfl (by decide)) fun a17 H17 => wl_ <| i_ H17 rfl (v := .slice (some ⟨g1, 1, none⟩) 31 31) (dd_slAl (l := 1) (n := 32) (sz := 1) (j := 1) rfl (H17.ev 1 rfl) (H17.ev 23 rfl) (by kernel_rfl) (by decide) rfl rfl) fun a18 H18 => wl_ <| i_ H18 rfl (v := .pointer (some ⟨g1, 1, none⟩)) (dd_s2a (m := 9) (sz := 1) rfl (H18.ev 24 rfl) (by kernel_rfl) (by decide)) fun a19 H19 => wl_ <| i_ H19 rfl (v := .agg (bs ((q.drop 1).take 9))) (dd_load HS8 0 1 rfl rfl (H19.ev 25 rfl) (bs_slab hq 1 9 (by decide)) Tryd.underlying47 rfl (by rw [show (bs ((q.drop 1).take 9)).size = 9 from ((size_bs _).trans (len_take (n := 32 - 1) (len_drop hq rfl) (by decide)))]; kernel_rfl)) fun a20 H20 => ?_
  clear H15 a15 H16 a16 H17 a17 H18 a18 H19 a19
  refine wl_ <| d_ H20 rfl (R := fun v w9 => ∃ gf22, v = .agg #[.string (strB (volQ ((q.drop 1).take 9)).1), .slice (some ⟨gf22, 0, none⟩) ((fromL ((q.drop 1).take 9)).length) ((fromL ((q.drop 1).take 9)).length)] ∧ (W8.heap.size ≤ gf22) ∧ (Row w9 gf22 3 (intsV (fromL ((q.drop 1).take 9))).toArray) ∧ Below W8.heap.size W8 w9) (dc_ Tryd.func21 rfl (args1 (H20.ev 26 rfl)) (frombytes_any ((q.drop 1).take 9) W8 (len_take (n := 32 - 1) (len_drop hq rfl) (by decide))) (fun _ w9 ⟨g9, he, h1, h2, hb⟩ => ⟨_, he, g9, rfl, h1, h2, hb⟩)) ?_
  rintro _ W21 ⟨gf22, rfl, hg22, hr22, hb21⟩ a21 H21
  have HS21 := HS8.same hb21
  clear H20 a20
  have HS21j : St w noF [⟨g1, 24, bs q⟩, ⟨g13, 45, #[.string (⟨#[]⟩), .slice none 0 0, .string (⟨#[]⟩), .slice none 0 0]⟩, ⟨gf22, 3, (intsV (fromL ((q.drop 1).take 9))).toArray⟩] W21 := HS8.joins hb21 hr22 hg22
  clear HS21 hr22 hg22
  clear HS8 hb21
  refine wl_ <| i_ H21 rfl (xS 2 0 rfl (H21.ev 19 rfl) (H21.ev 20 rfl)) fun a23 H23 => wl_ <| t_ rfl (fun _ h => dd_store (cs := #[.string (strB (volQ ((q.drop 1).take 9)).1), .slice (some ⟨gf22, 0, none⟩) ((fromL ((q.drop 1).take 9)).length) ((fromL ((q.drop 1).take 9)).length), .string (⟨#[]⟩), .slice none 0 0]) HS21j 1 0 rfl rfl (H23.ev 28 rfl) (H23.ev 27 rfl) (by kernel_rfl) (Nat.le_of_ble_eq_true rfl) (one_l (ao_cons rfl (ao_cons rfl ao_nil))) rfl h) fun W24 HS24 => ln_ <| ?_
  clear H21 a21 HS21j
  have H25 := H23.sel [1, 4, 15, 16] rfl
  refine bn <| nx <| rl_ <| wl_ <| i_ H25 rfl (v := .int .i64 1) (dd_ari rfl (H25.ev 16 rfl) rfl rfl (by decide)) fun a26 H26 => wl_ <| p_ H26 rfl rfl fun a27 H27 => ln_ <| nx <| unr_go <| sq_ <| rl_ <| wl_ <| i_ H27 rfl (dd_cmp rfl (H27.ev 16 rfl) (H27.ev 15 rfl) (lt_t (by decide))) fun a28 H28 => ln_ <| nx <| sq_ <| ct_ H28 rfl <| wp_skip <| nx <| sq_ <| wp_block <| sq_ <| rl_ <| q_ H28 2 rfl fun a29 H29 => ln_ <| nx <| rl_ <| q_ H29 3 rfl fun a30 H30 => wl_ <| i_ H30 rfl (v := .int .i64 9) (dd_ari rfl (H30.ev 21 rfl) rfl rfl (by decide)) fun a31 H31 => wl_ <| i_ H31 rfl (v := .int .i64 10) (dd_ari rfl rfl (H31.ev 22 rfl) rfl (by decide)) fun a32 H32 => wl_ <| i_ H32 rfl (v := .slice (some ⟨g1, 10, none⟩) 22 22) (dd_slAl (l := 10) (n := 32) (sz := 1) (j := 10) rfl (H32.ev 1 rfl) (H32.ev 23 rfl) (by kernel_rfl) (by decide) rfl rfl) fun a33 H33 => ?_
  clear H23 H25 a23 H26 a26 H27 a27 H28 a28 H29 a29 H30 a30 H31 a31
  refine wl_ <| i_ H33 rfl (v := .pointer (some ⟨g1, 10, none⟩)) (dd_s2a (m := 9) (sz := 1) rfl (H33.ev 24 rfl) (by kernel_rfl) (by decide)) fun a34 H34 => wl_ <| i_ H34 rfl (v := .agg (bs ((q.drop 10).take 9))) (dd_load HS24 0 10 rfl rfl (H34.ev 25 rfl) (bs_slab hq 10 9 (by decide)) Tryd.underlying47 rfl (by rw [show (bs ((q.drop 10).take 9)).size = 9 from ((size_bs _).trans (len_take (n := 32 - 10) (len_drop hq rfl) (by decide)))]; kernel_rfl)) fun a35 H35 => ?_
  clear H32 a32 H33 a33 H34 a34
  refine wl_ <| d_ H35 rfl (R := fun v w9 => ∃ gf37, v = .agg #[.string (strB (volQ ((q.drop 10).take 9)).1), .slice (some ⟨gf37, 0, none⟩) ((fromL ((q.drop 10).take 9)).length) ((fromL ((q.drop 10).take 9)).length)] ∧ (W24.heap.size ≤ gf37) ∧ (Row w9 gf37 3 (intsV (fromL ((q.drop 10).take 9))).toArray) ∧ Below W24.heap.size W24 w9) (dc_ Tryd.func21 rfl (args1 (H35.ev 26 rfl)) (frombytes_any ((q.drop 10).take 9) W24 (len_take (n := 32 - 10) (len_drop hq rfl) (by decide))) (fun _ w9 ⟨g9, he, h1, h2, hb⟩ => ⟨_, he, g9, rfl, h1, h2, hb⟩)) ?_
  rintro _ W36 ⟨gf37, rfl, hg37, hr37, hb36⟩ a36 H36
  have HS36 := HS24.same hb36
  clear H35 a35
  have HS36j : St w noF [⟨g1, 24, bs q⟩, ⟨g13, 45, #[.string (strB (volQ ((q.drop 1).take 9)).1), .slice (some ⟨gf22, 0, none⟩) ((fromL ((q.drop 1).take 9)).length) ((fromL ((q.drop 1).take 9)).length), .string (⟨#[]⟩), .slice none 0 0]⟩, ⟨gf22, 3, (intsV (fromL ((q.drop 1).take 9))).toArray⟩, ⟨gf37, 3, (intsV (fromL ((q.drop 10).take 9))).toArray⟩] W36 := HS24.joins hb36 hr37 hg37
  clear HS36 hr37 hg37
  clear HS24 hb36
  refine wl_ <| i_ H36 rfl (xS 2 2 rfl (H36.ev 19 rfl) (H36.ev 20 rfl)) fun a38 H38 => wl_ <| t_ rfl (fun _ h => dd_store (cs := #[.string (strB (volQ ((q.drop 1).take 9)).1), .slice (some ⟨gf22, 0, none⟩) ((fromL ((q.drop 1).take 9)).length) ((fromL ((q.drop 1).take 9)).length), .string (strB (volQ ((q.drop 10).take 9)).1), .slice (some ⟨gf37, 0, none⟩) ((fromL ((q.drop 10).take 9)).length) ((fromL ((q.drop 10).take 9)).length)]) HS36j 1 2 rfl rfl (H38.ev 28 rfl) (H38.ev 27 rfl) (by kernel_rfl) (Nat.le_of_ble_eq_true rfl) (one_l (ao_cons rfl (ao_cons rfl ao_nil))) rfl h) fun W39 HS39 => ln_ <| bn <| nx <| rl_ <| wl_ <| i_ H38 rfl (v := .int .i64 2) (dd_ari rfl (H38.ev 16 rfl) rfl rfl (by decide)) fun a40 H40 => wl_ <| p_ H40 rfl rfl fun a41 H41 => ln_ <| nx <| unr_go <| sq_ <| rl_ <| wl_ <| i_ H41 rfl (dd_cmp rfl (H41.ev 16 rfl) (H41.ev 15 rfl) (lt_f (by decide))) fun a42 H42 => ln_ <| nx <| sq_ <| cf_ H42 rfl <| wp_exit <| tx <| tx <| bx <| nx <| sq_ <| sq_ <| rl_ <| wl_ <| p_ H42 rfl rfl fun a43 H43 => wl_ <| c_ H43 rfl HS39 (dcs Tryd.func10 rfl (args1 (H43.ev 31 rfl)) (enct_any _ _ _ [volQ ((q.drop 1).take 9), volQ ((q.drop 10).take 9)] W39 (vols_row (l := volL [volQ ((q.drop 1).take 9), volQ ((q.drop 10).take 9)]) (HS39.row 1 rfl) (Nat.le_refl _) (by show 2 ≤ maxLen; decide) (get_consP (volAt_of (ints_rowI (HS39.row 2 rfl) (Nat.le_trans (fromL_len _) (by decide)) (fromL_bound _)) (Nat.le_trans (volQ_name _ (by rw [List.length_take, List.length_drop, hq]; rfl)) (by decide))) (get_consP (volAt_of (ints_rowI (HS39.row 3 rfl) (Nat.le_trans (fromL_len _) (by decide)) (fromL_bound _)) (Nat.le_trans (volQ_name _ (by rw [List.length_take, List.length_drop, hq]; rfl)) (by decide))) (get_nilP)))) (by decide) (small_vq (l := [(q.drop 1).take 9, (q.drop 10).take 9]))) (.tuple #[.agg (bs (encT [volQ ((q.drop 1).take 9), volQ ((q.drop 10).take 9)])), .int .i64 (encE [volQ ((q.drop 1).take 9), volQ ((q.drop 10).take 9)])])) fun W44 HS44 a44 H44 => wl_ <| p_ H44 rfl rfl fun a45 H45 => ?_
  clear H36 a36 HS36j H38 a38 H40 a40 H41 a41 H42 a42 H43 a43 HS39
  refine wl_ <| i_ H45 rfl (dd_ext rfl (H45.ev 30 rfl) rfl) fun a46 H46 => wl_ <| i_ H46 rfl (dd_ext rfl (H46.ev 30 rfl) rfl) fun a47 H47 => wl_ <| n_ H47 rfl (fun _ h => dd_new HS44 (bs (zer 32)) rfl (z := .agg (bs (zer 32))) (by kernel_rfl) rfl h) fun g6 W48 HS48 a48 H48 => wl_ <| t_ rfl (fun _ h => dd_setrow HS48 4 rfl rfl (H48.ev 6 rfl) (H48.ev 33 rfl) (by kernel_rfl) (((size_bs _).trans (length_encT _)) : (bs (encT [volQ ((q.drop 1).take 9), volQ ((q.drop 10).take 9)])).size = 32) (((size_bs _).trans (length_zer 32)) : (bs (zer 32)).size = 32) (one_bs _) h) fun W49 HS49 => wl_ <| p_ H48 rfl rfl fun a50 H50 => ln_ <| ?_
  clear H44 a44 H45 a45 H46 a46 HS44 H47 a47 HS48 H48 a48
  have H51 := H50.sel [1, 4, 6, 7] rfl
  refine nx <| sq_ <| rl_ <| wl_ <| p_ H51 rfl rfl fun a52 H52 => ?_
  clear H50 H51 a50
  by_cases hc54 : (encE [volQ ((q.drop 1).take 9), volQ ((q.drop 10).take 9)] : Int) = 0
  ·
   refine wl_ <| i_ H52 rfl (dd_cmp rfl (H52.ev 35 rfl) rfl (ne_f hc54)) fun a55 H55 => wl_ <| p_ H55 rfl rfl fun a56 H56 => wl_ <| ig H56 (wg_ H56 rfl rfl rfl rfl) rfl (v := .agg (bs (encT [volQ ((q.drop 1).take 9), volQ ((q.drop 10).take 9)]))) (dd_load HS49 4 0 rfl rfl (H56.ev 6 rfl) (slab_whole _) Tryd.underlying24 rfl (by rw [show (bs (encT [volQ ((q.drop 1).take 9), volQ ((q.drop 10).take 9)])).size = 32 from ((size_bs _).trans (length_encT _))]; kernel_rfl)) fun a57 H57 => wl_ <| ig H57 (wg_ H57 rfl rfl rfl rfl) rfl (v := .agg (bs q)) (dd_load HS49 0 0 rfl rfl (H57.ev 1 rfl) (slab_whole _) Tryd.underlying24 rfl (by rw [show (bs q).size = 32 from ((size_bs _).trans hq)]; kernel_rfl)) fun a58 H58 => ?_
   clear H52 a52 H55 a55 H56 a56 H57 a57
   cases hb60 : decide (encT [volQ ((q.drop 1).take 9), volQ ((q.drop 10).take 9)] = q)
   case false =>
    refine wl_ <| ig H58 (wg_ H58 rfl rfl rfl rfl) rfl (v := .bool true) (dd_nea (b := false) rfl (H58.ev 38 rfl) (H58.ev 39 rfl) (by kernel_rfl) (fun w => by have h9 := eql_blk (encT [volQ ((q.drop 1).take 9), volQ ((q.drop 10).take 9)]) q (length_encT _) hq w; rw [hb60] at h9; exact h9) rfl) fun a61 H61 => wl_ <| p_ H61 rfl rfl fun a62 H62 => ln_ <| nx <| ct_ H62 rfl <| sq_ <| rl_ <| q_ H62 2 rfl fun a63 H63 => ln_ <| nx <| wp_ret <| tr <| ret_run H63.env0 (res_tt Tryd.results12 (H63.get 2 rfl) (H63.get 3 rfl)) <| ?_
    clear H58 a58 H61 a61 H62 a62
    have hbad := okD_no (q := q) (fun ⟨_, h2, h3⟩ => by exact of_decide_eq_false hb60 (hQ ▸ h3))
    exact ⟨_, by rw [(dec_bad hbad).2], by rw [(dec_bad hbad).1]; exact OV.nil _ _, HS49.below⟩
   case true =>
    refine wl_ <| ig H58 (wg_ H58 rfl rfl rfl rfl) rfl (v := .bool false) (dd_nea (b := true) rfl (H58.ev 38 rfl) (H58.ev 39 rfl) (by kernel_rfl) (fun w => by have h9 := eql_blk (encT [volQ ((q.drop 1).take 9), volQ ((q.drop 10).take 9)]) q (length_encT _) hq w; rw [hb60] at h9; exact h9) rfl) fun a64 H64 => wl_ <| p_ H64 rfl rfl fun a65 H65 => ln_ <| nx <| cf_ H65 rfl <| wp_skip <| nx <| sq_ <| rl_ <| q_ H65 3 rfl fun a66 H66 => ln_ <| nx <| wp_ret <| ret_run H66.env0 (res_tt Tryd.results12 (H66.get 2 rfl) (H66.get 3 rfl)) <| ?_
    clear H58 a58 H64 a64 H65 a65
    have hok := okD_yes (q := q) (by rw [h0]; decide) (by rw [hQ]; exact encE_z.1 hc54) (by rw [hQ]; exact of_decide_eq_true hb60)
    exact ⟨_, by rw [(dec_good hok).2], by rw [(dec_good hok).1, hQ]; exact ⟨_, ⟨rfl, .inr ⟨_, 2, _, rfl, st_fresh HS49 1 rfl, HS49.row 1 rfl, Nat.le_refl _, by decide, rfl, rfl⟩⟩, cellsV_cons (.inr ⟨own_rowI (HS49.row 2 rfl) (st_fresh HS49 2 rfl) (Nat.le_trans (fromL_len _) (by decide)), fromL_bound _⟩) (Nat.le_trans (volQ_name _ (by rw [List.length_take, List.length_drop, hq]; rfl)) (by decide)) (cellsV_cons (.inr ⟨own_rowI (HS49.row 3 rfl) (st_fresh HS49 3 rfl) (Nat.le_trans (fromL_len _) (by decide)), fromL_bound _⟩) (Nat.le_trans (volQ_name _ (by rw [List.length_take, List.length_drop, hq]; rfl)) (by decide)) (cellsV_nil _ _))⟩, HS49.below⟩
  ·
   refine wl_ <| i_ H52 rfl (dd_cmp rfl (H52.ev 35 rfl) rfl (ne_t hc54)) fun a67 H67 => wl_ <| p_ H67 rfl rfl fun a68 H68 => wl_ <| k_ H68 (wg_ H68 rfl rfl rfl rfl) rfl fun a69 H69 => wl_ <| k_ H69 (wg_ H69 rfl rfl rfl rfl) rfl fun a70 H70 => wl_ <| k_ H70 (wg_ H70 rfl rfl rfl rfl) rfl fun a71 H71 => wl_ <| p_ H71 rfl rfl fun a72 H72 => ln_ <| nx <| ct_ H72 rfl <| sq_ <| rl_ <| q_ H72 2 rfl fun a73 H73 => ln_ <| nx <| wp_ret <| tr <| ret_run H73.env0 (res_tt Tryd.results12 (H73.get 2 rfl) (H73.get 3 rfl)) <| ?_
   clear H52 a52 H67 a67 H68 a68 H69 a69 H70 a70 H71 a71 H72 a72
   have hbad := okD_no (q := q) (fun ⟨_, h2, h3⟩ => by exact hc54 (encE_z.2 (hQ ▸ h2)))
   exact ⟨_, by rw [(dec_bad hbad).2], by rw [(dec_bad hbad).1]; exact OV.nil _ _, HS49.below⟩
set_option maxRecDepth 10000 in
set_option maxHeartbeats 1600000 in
theorem dect3 (q : List (BitVec 8)) (w : World) (hq : q.length = 32) (h0 : q.getD 0 0#8 = 3#8) :
    Calls Tryd.prog 12 #[.agg (bs q)] w fun e w' => ∃ v, e = .returned (.tuple #[v, .int .i64 (decE q)]) ∧ OV w.heap.size w' v (volL (decLT q)) ∧ Below w.heap.size w w' := by
  have HS := St.nil w noF
  have hQ : decQ q = [volQ ((q.drop 1).take 9), volQ ((q.drop 10).take 9), volQ ((q.drop 19).take 9)] := by unfold decQ; rw [h0]; rfl
  refine enter_en Tryd.func12 rfl Tryd.ntmps12 (Nat.le_of_ble_eq_true rfl) fun a0 (HA0 : En 43 [(0, .agg (bs q))] a0) => ?_
  refine sq_ <| rl_ <| wl_ <| n_ HA0 rfl (fun _ h => dd_box HS rfl (HA0.ev 0 rfl) (cs := (bs q)) rfl h) fun g1 W1 HS1 a1 H1 => q_ H1 2 rfl fun a2 H2 => ln_ <| nx <| sq_ <| sq_ <| rl_ <| wl_ <| i_ H2 rfl (xA 32 1 0 rfl (H2.ev 1 rfl) rfl) fun a3 H3 => wl_ <| i_ H3 rfl (v := .int .u8 3) (dd_get HS1 0 0 rfl rfl (H3.ev 8 rfl) ((bs_get hq 0 (by decide)).trans (by rw [h0]; rfl)) Tryd.underlying5 rfl) fun a4 H4 => wl_ <| i_ H4 rfl (dd_cmp rfl (H4.ev 9 rfl) rfl (gt_f (by decide))) fun a5 H5 => ln_ <| nx <| cf_ H5 rfl <| wp_skip <| nx <| sq_ <| rl_ <| wl_ <| i_ H5 rfl (xA 32 1 0 rfl (H5.ev 1 rfl) rfl) fun a6 H6 => wl_ <| i_ H6 rfl (v := .int .u8 3) (dd_get HS1 0 0 rfl rfl (H6.ev 11 rfl) ((bs_get hq 0 (by decide)).trans (by rw [h0]; rfl)) Tryd.underlying5 rfl) fun a7 H7 => wl_ <| n_ H7 rfl (A := fun g13 => .slice (some ⟨g13, 0, none⟩) 3 3) (fun _ h => dd_mk HS1 rfl (H7.ev 12 rfl) (H7.ev 12 rfl) (z := .agg #[.string (⟨#[]⟩), .slice none 0 0]) (sz := 2) (bytes := 40) (cs := #[.string (⟨#[]⟩), .slice none 0 0, .string (⟨#[]⟩), .slice none 0 0, .string (⟨#[]⟩), .slice none 0 0]) Tryd.underlying22 (by kernel_rfl) (by decide) (by decide) (by decide) (by kernel_rfl) h) fun g13 W8 HS8 a8 H8 => ?_
  clear HS HA0 a0 H1 a1 H2 a2 H3 a3 H4 a4 H5 a5 H6 a6
  refine wl_ <| p_ H8 rfl rfl fun a9 H9 => ln_ <| nx <| sq_ <| sq_ <| rl_ <| wl_ <| p_ H9 rfl rfl fun a10 H10 => wl_ <| i_ H10 rfl (v := .int .i64 3) (dd_len rfl (H10.ev 14 rfl) Tryd.underlying22) fun a11 H11 => wl_ <| p_ H11 rfl rfl fun a12 H12 => ln_ <| nx <| wp_block <| wp_unr 4 <| unr_go <| sq_ <| rl_ <| wl_ <| i_ H12 rfl (dd_cmp rfl (H12.ev 16 rfl) (H12.ev 15 rfl) (lt_t (by decide))) fun a13 H13 => ln_ <| nx <| sq_ <| ct_ H13 rfl <| wp_skip <| nx <| sq_ <| wp_block <| sq_ <| rl_ <| q_ H13 2 rfl fun a14 H14 => ln_ <| nx <| rl_ <| q_ H14 3 rfl fun a15 H15 => wl_ <| i_ H15 rfl (v := .int .i64 0) (dd_ari rfl (H15.ev 21 rfl) rfl rfl (by decide)) fun a16 H16 => ?_
  clear HS1 H7 a7 H8 a8 H9 a9 H10 a10 H11 a11 H12 a12 H13 a13 H14 a14
  refine wl_ <| i_ H16 rfl (v := .int .i64 1) (dd_ari rfl rfl (H16.ev 22 rfl) rfl (by decide)) fun a17 H17 => wl_ <| i_ H17 rfl (v := .slice (some ⟨g1, 1, none⟩) 31 31) (dd_slAl (l := 1) (n := 32) (sz := 1) (j := 1) rfl (H17.ev 1 rfl) (H17.ev 23 rfl) (by kernel_rfl) (by decide) rfl rfl) fun a18 H18 => wl_ <| i_ H18 rfl (v := .pointer (some ⟨g1, 1, none⟩)) (dd_s2a (m := 9) (sz := 1) rfl (H18.ev 24 rfl) (by kernel_rfl) (by decide)) fun a19 H19 => wl_ <| i_ H19 rfl (v := .agg (bs ((q.drop 1).take 9))) (dd_load HS8 0 1 rfl rfl (H19.ev 25 rfl) (bs_slab hq 1 9 (by decide)) Tryd.underlying47 rfl (by rw [show (bs ((q.drop 1).take 9)).size = 9 from ((size_bs _).trans (len_take (n := 32 - 1) (len_drop hq rfl) (by decide)))]; kernel_rfl)) fun a20 H20 => ?_
  clear H15 a15 H16 a16 H17 a17 H18 a18 H19 a19
  refine wl_ <| d_ H20 rfl (R := fun v w9 => ∃ gf22, v = .agg #[.string (strB (volQ ((q.drop 1).take 9)).1), .slice (some ⟨gf22, 0, none⟩) ((fromL ((q.drop 1).take 9)).length) ((fromL ((q.drop 1).take 9)).length)] ∧ (W8.heap.size ≤ gf22) ∧ (Row w9 gf22 3 (intsV (fromL ((q.drop 1).take 9))).toArray) ∧ Below W8.heap.size W8 w9) (dc_ Tryd.func21 rfl (args1 (H20.ev 26 rfl)) (frombytes_any ((q.drop 1).take 9) W8 (len_take (n := 32 - 1) (len_drop hq rfl) (by decide))) (fun _ w9 ⟨g9, he, h1, h2, hb⟩ => ⟨_, he, g9, rfl, h1, h2, hb⟩)) ?_
  rintro _ W21 ⟨gf22, rfl, hg22, hr22, hb21⟩ a21 H21
  have HS21 := HS8.same hb21
  clear H20 a20
  have HS21j : St w noF [⟨g1, 24, bs q⟩, ⟨g13, 45, #[.string (⟨#[]⟩), .slice none 0 0, .string (⟨#[]⟩), .slice none 0 0, .string (⟨#[]⟩), .slice none 0 0]⟩, ⟨gf22, 3, (intsV (fromL ((q.drop 1).take 9))).toArray⟩] W21 := HS8.joins hb21 hr22 hg22
  clear HS21 hr22 hg22
  clear HS8 hb21
  refine wl_ <| i_ H21 rfl (xS 2 0 rfl (H21.ev 19 rfl) (H21.ev 20 rfl)) fun a23 H23 => wl_ <| t_ rfl (fun _ h => dd_store (cs := #[.string (strB (volQ ((q.drop 1).take 9)).1), .slice (some ⟨gf22, 0, none⟩) ((fromL ((q.drop 1).take 9)).length) ((fromL ((q.drop 1).take 9)).length), .string (⟨#[]⟩), .slice none 0 0, .string (⟨#[]⟩), .slice none 0 0]) HS21j 1 0 rfl rfl (H23.ev 28 rfl) (H23.ev 27 rfl) (by kernel_rfl) (Nat.le_of_ble_eq_true rfl) (one_l (ao_cons rfl (ao_cons rfl ao_nil))) rfl h) fun W24 HS24 => ln_ <| ?_
  clear H21 a21 HS21j
  have H25 := H23.sel [1, 4, 15, 16] rfl
  refine bn <| nx <| rl_ <| wl_ <| i_ H25 rfl (v := .int .i64 1) (dd_ari rfl (H25.ev 16 rfl) rfl rfl (by decide)) fun a26 H26 => wl_ <| p_ H26 rfl rfl fun a27 H27 => ln_ <| nx <| unr_go <| sq_ <| rl_ <| wl_ <| i_ H27 rfl (dd_cmp rfl (H27.ev 16 rfl) (H27.ev 15 rfl) (lt_t (by decide))) fun a28 H28 => ln_ <| nx <| sq_ <| ct_ H28 rfl <| wp_skip <| nx <| sq_ <| wp_block <| sq_ <| rl_ <| q_ H28 2 rfl fun a29 H29 => ln_ <| nx <| rl_ <| q_ H29 3 rfl fun a30 H30 => wl_ <| i_ H30 rfl (v := .int .i64 9) (dd_ari rfl (H30.ev 21 rfl) rfl rfl (by decide)) fun a31 H31 => wl_ <| i_ H31 rfl (v := .int .i64 10) (dd_ari rfl rfl (H31.ev 22 rfl) rfl (by decide)) fun a32 H32 => wl_ <| i_ H32 rfl (v := .slice (some ⟨g1, 10, none⟩) 22 22) (dd_slAl (l := 10) (n := 32) (sz := 1) (j := 10) rfl (H32.ev 1 rfl) (H32.ev 23 rfl) (by kernel_rfl) (by decide) rfl rfl) fun a33 H33 => ?_
  clear H23 H25 a23 H26 a26 H27 a27 H28 a28 H29 a29 H30 a30 H31 a31
  refine wl_ <| i_ H33 rfl (v := .pointer (some ⟨g1, 10, none⟩)) (dd_s2a (m := 9) (sz := 1) rfl (H33.ev 24 rfl) (by kernel_rfl) (by decide)) fun a34 H34 => wl_ <| i_ H34 rfl (v := .agg (bs ((q.drop 10).take 9))) (dd_load HS24 0 10 rfl rfl (H34.ev 25 rfl) (bs_slab hq 10 9 (by decide)) Tryd.underlying47 rfl (by rw [show (bs ((q.drop 10).take 9)).size = 9 from ((size_bs _).trans (len_take (n := 32 - 10) (len_drop hq rfl) (by decide)))]; kernel_rfl)) fun a35 H35 => ?_
  clear H32 a32 H33 a33 H34 a34
  refine wl_ <| d_ H35 rfl (R := fun v w9 => ∃ gf37, v = .agg #[.string (strB (volQ ((q.drop 10).take 9)).1), .slice (some ⟨gf37, 0, none⟩) ((fromL ((q.drop 10).take 9)).length) ((fromL ((q.drop 10).take 9)).length)] ∧ (W24.heap.size ≤ gf37) ∧ (Row w9 gf37 3 (intsV (fromL ((q.drop 10).take 9))).toArray) ∧ Below W24.heap.size W24 w9) (dc_ Tryd.func21 rfl (args1 (H35.ev 26 rfl)) (frombytes_any ((q.drop 10).take 9) W24 (len_take (n := 32 - 10) (len_drop hq rfl) (by decide))) (fun _ w9 ⟨g9, he, h1, h2, hb⟩ => ⟨_, he, g9, rfl, h1, h2, hb⟩)) ?_
  rintro _ W36 ⟨gf37, rfl, hg37, hr37, hb36⟩ a36 H36
  have HS36 := HS24.same hb36
  clear H35 a35
  have HS36j : St w noF [⟨g1, 24, bs q⟩, ⟨g13, 45, #[.string (strB (volQ ((q.drop 1).take 9)).1), .slice (some ⟨gf22, 0, none⟩) ((fromL ((q.drop 1).take 9)).length) ((fromL ((q.drop 1).take 9)).length), .string (⟨#[]⟩), .slice none 0 0, .string (⟨#[]⟩), .slice none 0 0]⟩, ⟨gf22, 3, (intsV (fromL ((q.drop 1).take 9))).toArray⟩, ⟨gf37, 3, (intsV (fromL ((q.drop 10).take 9))).toArray⟩] W36 := HS24.joins hb36 hr37 hg37
  clear HS36 hr37 hg37
  clear HS24 hb36
  refine wl_ <| i_ H36 rfl (xS 2 2 rfl (H36.ev 19 rfl) (H36.ev 20 rfl)) fun a38 H38 => wl_ <| t_ rfl (fun _ h => dd_store (cs := #[.string (strB (volQ ((q.drop 1).take 9)).1), .slice (some ⟨gf22, 0, none⟩) ((fromL ((q.drop 1).take 9)).length) ((fromL ((q.drop 1).take 9)).length), .string (strB (volQ ((q.drop 10).take 9)).1), .slice (some ⟨gf37, 0, none⟩) ((fromL ((q.drop 10).take 9)).length) ((fromL ((q.drop 10).take 9)).length), .string (⟨#[]⟩), .slice none 0 0]) HS36j 1 2 rfl rfl (H38.ev 28 rfl) (H38.ev 27 rfl) (by kernel_rfl) (Nat.le_of_ble_eq_true rfl) (one_l (ao_cons rfl (ao_cons rfl ao_nil))) rfl h) fun W39 HS39 => ln_ <| bn <| nx <| rl_ <| wl_ <| i_ H38 rfl (v := .int .i64 2) (dd_ari rfl (H38.ev 16 rfl) rfl rfl (by decide)) fun a40 H40 => wl_ <| p_ H40 rfl rfl fun a41 H41 => ln_ <| nx <| unr_go <| sq_ <| rl_ <| wl_ <| i_ H41 rfl (dd_cmp rfl (H41.ev 16 rfl) (H41.ev 15 rfl) (lt_t (by decide))) fun a42 H42 => ln_ <| nx <| sq_ <| ct_ H42 rfl <| wp_skip <| nx <| sq_ <| wp_block <| sq_ <| rl_ <| q_ H42 2 rfl fun a43 H43 => ln_ <| nx <| rl_ <| q_ H43 3 rfl fun a44 H44 => wl_ <| i_ H44 rfl (v := .int .i64 18) (dd_ari rfl (H44.ev 21 rfl) rfl rfl (by decide)) fun a45 H45 => ?_
  clear H36 a36 HS36j H38 a38 H40 a40 H41 a41 H42 a42 H43 a43
  refine wl_ <| i_ H45 rfl (v := .int .i64 19) (dd_ari rfl rfl (H45.ev 22 rfl) rfl (by decide)) fun a46 H46 => wl_ <| i_ H46 rfl (v := .slice (some ⟨g1, 19, none⟩) 13 13) (dd_slAl (l := 19) (n := 32) (sz := 1) (j := 19) rfl (H46.ev 1 rfl) (H46.ev 23 rfl) (by kernel_rfl) (by decide) rfl rfl) fun a47 H47 => wl_ <| i_ H47 rfl (v := .pointer (some ⟨g1, 19, none⟩)) (dd_s2a (m := 9) (sz := 1) rfl (H47.ev 24 rfl) (by kernel_rfl) (by decide)) fun a48 H48 => wl_ <| i_ H48 rfl (v := .agg (bs ((q.drop 19).take 9))) (dd_load HS39 0 19 rfl rfl (H48.ev 25 rfl) (bs_slab hq 19 9 (by decide)) Tryd.underlying47 rfl (by rw [show (bs ((q.drop 19).take 9)).size = 9 from ((size_bs _).trans (len_take (n := 32 - 19) (len_drop hq rfl) (by decide)))]; kernel_rfl)) fun a49 H49 => ?_
  clear H44 a44 H45 a45 H46 a46 H47 a47 H48 a48
  refine wl_ <| d_ H49 rfl (R := fun v w9 => ∃ gf51, v = .agg #[.string (strB (volQ ((q.drop 19).take 9)).1), .slice (some ⟨gf51, 0, none⟩) ((fromL ((q.drop 19).take 9)).length) ((fromL ((q.drop 19).take 9)).length)] ∧ (W39.heap.size ≤ gf51) ∧ (Row w9 gf51 3 (intsV (fromL ((q.drop 19).take 9))).toArray) ∧ Below W39.heap.size W39 w9) (dc_ Tryd.func21 rfl (args1 (H49.ev 26 rfl)) (frombytes_any ((q.drop 19).take 9) W39 (len_take (n := 32 - 19) (len_drop hq rfl) (by decide))) (fun _ w9 ⟨g9, he, h1, h2, hb⟩ => ⟨_, he, g9, rfl, h1, h2, hb⟩)) ?_
  rintro _ W50 ⟨gf51, rfl, hg51, hr51, hb50⟩ a50 H50
  have HS50 := HS39.same hb50
  clear H49 a49
  have HS50j : St w noF [⟨g1, 24, bs q⟩, ⟨g13, 45, #[.string (strB (volQ ((q.drop 1).take 9)).1), .slice (some ⟨gf22, 0, none⟩) ((fromL ((q.drop 1).take 9)).length) ((fromL ((q.drop 1).take 9)).length), .string (strB (volQ ((q.drop 10).take 9)).1), .slice (some ⟨gf37, 0, none⟩) ((fromL ((q.drop 10).take 9)).length) ((fromL ((q.drop 10).take 9)).length), .string (⟨#[]⟩), .slice none 0 0]⟩, ⟨gf22, 3, (intsV (fromL ((q.drop 1).take 9))).toArray⟩, ⟨gf37, 3, (intsV (fromL ((q.drop 10).take 9))).toArray⟩, ⟨gf51, 3, (intsV (fromL ((q.drop 19).take 9))).toArray⟩] W50 := HS39.joins hb50 hr51 hg51
  clear HS50 hr51 hg51
  clear HS39 hb50
  refine wl_ <| i_ H50 rfl (xS 2 4 rfl (H50.ev 19 rfl) (H50.ev 20 rfl)) fun a52 H52 => wl_ <| t_ rfl (fun _ h => dd_store (cs := #[.string (strB (volQ ((q.drop 1).take 9)).1), .slice (some ⟨gf22, 0, none⟩) ((fromL ((q.drop 1).take 9)).length) ((fromL ((q.drop 1).take 9)).length), .string (strB (volQ ((q.drop 10).take 9)).1), .slice (some ⟨gf37, 0, none⟩) ((fromL ((q.drop 10).take 9)).length) ((fromL ((q.drop 10).take 9)).length), .string (strB (volQ ((q.drop 19).take 9)).1), .slice (some ⟨gf51, 0, none⟩) ((fromL ((q.drop 19).take 9)).length) ((fromL ((q.drop 19).take 9)).length)]) HS50j 1 4 rfl rfl (H52.ev 28 rfl) (H52.ev 27 rfl) (by kernel_rfl) (Nat.le_of_ble_eq_true rfl) (one_l (ao_cons rfl (ao_cons rfl ao_nil))) rfl h) fun W53 HS53 => ln_ <| bn <| nx <| rl_ <| wl_ <| i_ H52 rfl (v := .int .i64 3) (dd_ari rfl (H52.ev 16 rfl) rfl rfl (by decide)) fun a54 H54 => wl_ <| p_ H54 rfl rfl fun a55 H55 => ln_ <| nx <| unr_go <| sq_ <| rl_ <| wl_ <| i_ H55 rfl (dd_cmp rfl (H55.ev 16 rfl) (H55.ev 15 rfl) (lt_f (by decide))) fun a56 H56 => ln_ <| nx <| sq_ <| cf_ H56 rfl <| wp_exit <| tx <| tx <| bx <| nx <| sq_ <| sq_ <| rl_ <| wl_ <| p_ H56 rfl rfl fun a57 H57 => wl_ <| c_ H57 rfl HS53 (dcs Tryd.func10 rfl (args1 (H57.ev 31 rfl)) (enct_any _ _ _ [volQ ((q.drop 1).take 9), volQ ((q.drop 10).take 9), volQ ((q.drop 19).take 9)] W53 (vols_row (l := volL [volQ ((q.drop 1).take 9), volQ ((q.drop 10).take 9), volQ ((q.drop 19).take 9)]) (HS53.row 1 rfl) (Nat.le_refl _) (by show 3 ≤ maxLen; decide) (get_consP (volAt_of (ints_rowI (HS53.row 2 rfl) (Nat.le_trans (fromL_len _) (by decide)) (fromL_bound _)) (Nat.le_trans (volQ_name _ (by rw [List.length_take, List.length_drop, hq]; rfl)) (by decide))) (get_consP (volAt_of (ints_rowI (HS53.row 3 rfl) (Nat.le_trans (fromL_len _) (by decide)) (fromL_bound _)) (Nat.le_trans (volQ_name _ (by rw [List.length_take, List.length_drop, hq]; rfl)) (by decide))) (get_consP (volAt_of (ints_rowI (HS53.row 4 rfl) (Nat.le_trans (fromL_len _) (by decide)) (fromL_bound _)) (Nat.le_trans (volQ_name _ (by rw [List.length_take, List.length_drop, hq]; rfl)) (by decide))) (get_nilP))))) (by decide) (small_vq (l := [(q.drop 1).take 9, (q.drop 10).take 9, (q.drop 19).take 9]))) (.tuple #[.agg (bs (encT [volQ ((q.drop 1).take 9), volQ ((q.drop 10).take 9), volQ ((q.drop 19).take 9)])), .int .i64 (encE [volQ ((q.drop 1).take 9), volQ ((q.drop 10).take 9), volQ ((q.drop 19).take 9)])])) fun W58 HS58 a58 H58 => wl_ <| p_ H58 rfl rfl fun a59 H59 => ?_
  clear H50 a50 HS50j H52 a52 H54 a54 H55 a55 H56 a56 H57 a57 HS53
  refine wl_ <| i_ H59 rfl (dd_ext rfl (H59.ev 30 rfl) rfl) fun a60 H60 => wl_ <| i_ H60 rfl (dd_ext rfl (H60.ev 30 rfl) rfl) fun a61 H61 => wl_ <| n_ H61 rfl (fun _ h => dd_new HS58 (bs (zer 32)) rfl (z := .agg (bs (zer 32))) (by kernel_rfl) rfl h) fun g6 W62 HS62 a62 H62 => wl_ <| t_ rfl (fun _ h => dd_setrow HS62 5 rfl rfl (H62.ev 6 rfl) (H62.ev 33 rfl) (by kernel_rfl) (((size_bs _).trans (length_encT _)) : (bs (encT [volQ ((q.drop 1).take 9), volQ ((q.drop 10).take 9), volQ ((q.drop 19).take 9)])).size = 32) (((size_bs _).trans (length_zer 32)) : (bs (zer 32)).size = 32) (one_bs _) h) fun W63 HS63 => wl_ <| p_ H62 rfl rfl fun a64 H64 => ln_ <| ?_
  clear H58 a58 H59 a59 H60 a60 HS58 H61 a61 HS62 H62 a62
  have H65 := H64.sel [1, 4, 6, 7] rfl
  refine nx <| sq_ <| rl_ <| wl_ <| p_ H65 rfl rfl fun a66 H66 => ?_
  clear H64 H65 a64
  by_cases hc68 : (encE [volQ ((q.drop 1).take 9), volQ ((q.drop 10).take 9), volQ ((q.drop 19).take 9)] : Int) = 0
  ·
   refine wl_ <| i_ H66 rfl (dd_cmp rfl (H66.ev 35 rfl) rfl (ne_f hc68)) fun a69 H69 => wl_ <| p_ H69 rfl rfl fun a70 H70 => wl_ <| ig H70 (wg_ H70 rfl rfl rfl rfl) rfl (v := .agg (bs (encT [volQ ((q.drop 1).take 9), volQ ((q.drop 10).take 9), volQ ((q.drop 19).take 9)]))) (dd_load HS63 5 0 rfl rfl (H70.ev 6 rfl) (slab_whole _) Tryd.underlying24 rfl (by rw [show (bs (encT [volQ ((q.drop 1).take 9), volQ ((q.drop 10).take 9), volQ ((q.drop 19).take 9)])).size = 32 from ((size_bs _).trans (length_encT _))]; kernel_rfl)) fun a71 H71 => wl_ <| ig H71 (wg_ H71 rfl rfl rfl rfl) rfl (v := .agg (bs q)) (dd_load HS63 0 0 rfl rfl (H71.ev 1 rfl) (slab_whole _) Tryd.underlying24 rfl (by rw [show (bs q).size = 32 from ((size_bs _).trans hq)]; kernel_rfl)) fun a72 H72 => ?_
   clear H66 a66 H69 a69 H70 a70 H71 a71
   cases hb74 : decide (encT [volQ ((q.drop 1).take 9), volQ ((q.drop 10).take 9), volQ ((q.drop 19).take 9)] = q)
   case false =>
    refine wl_ <| ig H72 (wg_ H72 rfl rfl rfl rfl) rfl (v := .bool true) (dd_nea (b := false) rfl (H72.ev 38 rfl) (H72.ev 39 rfl) (by kernel_rfl) (fun w => by have h9 := eql_blk (encT [volQ ((q.drop 1).take 9), volQ ((q.drop 10).take 9), volQ ((q.drop 19).take 9)]) q (length_encT _) hq w; rw [hb74] at h9; exact h9) rfl) fun a75 H75 => wl_ <| p_ H75 rfl rfl fun a76 H76 => ln_ <| nx <| ct_ H76 rfl <| sq_ <| rl_ <| q_ H76 2 rfl fun a77 H77 => ln_ <| nx <| wp_ret <| tr <| ret_run H77.env0 (res_tt Tryd.results12 (H77.get 2 rfl) (H77.get 3 rfl)) <| ?_
    clear H72 a72 H75 a75 H76 a76
    have hbad := okD_no (q := q) (fun ⟨_, h2, h3⟩ => by exact of_decide_eq_false hb74 (hQ ▸ h3))
    exact ⟨_, by rw [(dec_bad hbad).2], by rw [(dec_bad hbad).1]; exact OV.nil _ _, HS63.below⟩
   case true =>
    refine wl_ <| ig H72 (wg_ H72 rfl rfl rfl rfl) rfl (v := .bool false) (dd_nea (b := true) rfl (H72.ev 38 rfl) (H72.ev 39 rfl) (by kernel_rfl) (fun w => by have h9 := eql_blk (encT [volQ ((q.drop 1).take 9), volQ ((q.drop 10).take 9), volQ ((q.drop 19).take 9)]) q (length_encT _) hq w; rw [hb74] at h9; exact h9) rfl) fun a78 H78 => wl_ <| p_ H78 rfl rfl fun a79 H79 => ln_ <| nx <| cf_ H79 rfl <| wp_skip <| nx <| sq_ <| rl_ <| q_ H79 3 rfl fun a80 H80 => ln_ <| nx <| wp_ret <| ret_run H80.env0 (res_tt Tryd.results12 (H80.get 2 rfl) (H80.get 3 rfl)) <| ?_
    clear H72 a72 H78 a78 H79 a79
    have hok := okD_yes (q := q) (by rw [h0]; decide) (by rw [hQ]; exact encE_z.1 hc68) (by rw [hQ]; exact of_decide_eq_true hb74)
    exact ⟨_, by rw [(dec_good hok).2], by rw [(dec_good hok).1, hQ]; exact ⟨_, ⟨rfl, .inr ⟨_, 3, _, rfl, st_fresh HS63 1 rfl, HS63.row 1 rfl, Nat.le_refl _, by decide, rfl, rfl⟩⟩, cellsV_cons (.inr ⟨own_rowI (HS63.row 2 rfl) (st_fresh HS63 2 rfl) (Nat.le_trans (fromL_len _) (by decide)), fromL_bound _⟩) (Nat.le_trans (volQ_name _ (by rw [List.length_take, List.length_drop, hq]; rfl)) (by decide)) (cellsV_cons (.inr ⟨own_rowI (HS63.row 3 rfl) (st_fresh HS63 3 rfl) (Nat.le_trans (fromL_len _) (by decide)), fromL_bound _⟩) (Nat.le_trans (volQ_name _ (by rw [List.length_take, List.length_drop, hq]; rfl)) (by decide)) (cellsV_cons (.inr ⟨own_rowI (HS63.row 4 rfl) (st_fresh HS63 4 rfl) (Nat.le_trans (fromL_len _) (by decide)), fromL_bound _⟩) (Nat.le_trans (volQ_name _ (by rw [List.length_take, List.length_drop, hq]; rfl)) (by decide)) (cellsV_nil _ _)))⟩, HS63.below⟩
  ·
   refine wl_ <| i_ H66 rfl (dd_cmp rfl (H66.ev 35 rfl) rfl (ne_t hc68)) fun a81 H81 => wl_ <| p_ H81 rfl rfl fun a82 H82 => wl_ <| k_ H82 (wg_ H82 rfl rfl rfl rfl) rfl fun a83 H83 => wl_ <| k_ H83 (wg_ H83 rfl rfl rfl rfl) rfl fun a84 H84 => wl_ <| k_ H84 (wg_ H84 rfl rfl rfl rfl) rfl fun a85 H85 => wl_ <| p_ H85 rfl rfl fun a86 H86 => ln_ <| nx <| ct_ H86 rfl <| sq_ <| rl_ <| q_ H86 2 rfl fun a87 H87 => ln_ <| nx <| wp_ret <| tr <| ret_run H87.env0 (res_tt Tryd.results12 (H87.get 2 rfl) (H87.get 3 rfl)) <| ?_
   clear H66 a66 H81 a81 H82 a82 H83 a83 H84 a84 H85 a85 H86 a86
   have hbad := okD_no (q := q) (fun ⟨_, h2, h3⟩ => by exact hc68 (encE_z.2 (hQ ▸ h2)))
   exact ⟨_, by rw [(dec_bad hbad).2], by rw [(dec_bad hbad).1]; exact OV.nil _ _, HS63.below⟩
set_option maxRecDepth 10000 in
set_option maxHeartbeats 1600000 in
theorem dect4 (q : List (BitVec 8)) (w : World) (hq : q.length = 32) (h0 : (3 : Int) < bd (q.getD 0 0#8)) :
    Calls Tryd.prog 12 #[.agg (bs q)] w fun e w' => ∃ v, e = .returned (.tuple #[v, .int .i64 (decE q)]) ∧ OV w.heap.size w' v (volL (decLT q)) ∧ Below w.heap.size w w' := by
  have HS := St.nil w noF
  have hbad := okD_no (q := q) (fun ⟨h1, _, _⟩ => by unfold bd at h0; omega)
  refine enter_en Tryd.func12 rfl Tryd.ntmps12 (Nat.le_of_ble_eq_true rfl) fun a0 (HA0 : En 43 [(0, .agg (bs q))] a0) => ?_
  refine sq_ <| rl_ <| wl_ <| n_ HA0 rfl (fun _ h => dd_box HS rfl (HA0.ev 0 rfl) (cs := (bs q)) rfl h) fun g1 W1 HS1 a1 H1 => q_ H1 2 rfl fun a2 H2 => ln_ <| nx <| sq_ <| sq_ <| rl_ <| wl_ <| i_ H2 rfl (xA 32 1 0 rfl (H2.ev 1 rfl) rfl) fun a3 H3 => wl_ <| i_ H3 rfl (dd_get HS1 0 0 rfl rfl (H3.ev 8 rfl) (bs_get hq 0 (by decide)) Tryd.underlying5 rfl) fun a4 H4 => wl_ <| i_ H4 rfl (dd_cmp rfl (H4.ev 9 rfl) rfl (gt_t h0)) fun a5 H5 => ln_ <| nx <| ct_ H5 rfl <| sq_ <| rl_ <| q_ H5 2 rfl fun a6 H6 => ln_ <| nx <| wp_ret <| tr <| ret_run H6.env0 (res_tt Tryd.results12 (H6.get 2 rfl) (H6.get 3 rfl)) <| ?_
  clear HS HA0 a0 H1 a1 H2 a2 H3 a3 H4 a4 H5 a5
  exact ⟨_, by rw [(dec_bad hbad).2], by rw [(dec_bad hbad).1]; exact OV.nil _ _, HS1.below⟩
theorem dect_any (q : List (BitVec 8)) (w : World) (hq : q.length = 32) :
    Calls Tryd.prog 12 #[.agg (bs q)] w fun e w' => ∃ v, e = .returned (.tuple #[v, .int .i64 (decE q)]) ∧ OV w.heap.size w' v (volL (decLT q)) ∧ Below w.heap.size w w' := by
  have hb := bd_lo (q.getD 0 0#8)
  by_cases h : (3 : Int) < bd (q.getD 0 0#8)
  · exact dect4 q w hq h
  have e : q.getD 0 0#8 = BitVec.ofInt 8 (bd (q.getD 0 0#8)) := bd_inj (bd_of _ hb (by omega))
  rcases (by omega : bd (q.getD 0 0#8) = 0 ∨ bd (q.getD 0 0#8) = 1 ∨ bd (q.getD 0 0#8) = 2 ∨ bd (q.getD 0 0#8) = 3) with h | h | h | h <;> rw [h] at e
  · exact dect0 q w hq e
  · exact dect1 q w hq e
  · exact dect2 q w hq e
  · exact dect3 q w hq e
end Go.Proofs.YtpmedgibnnonkaaDoor
