/- The statement NamesBack: its walk. -/
import Derived.Test.YtnepjcpbahhngaaDoorNamesWakes
import Derived.Test.YtnepjcpbahhngaaDoorMod
set_option maxRecDepth 4000
namespace Go.Proofs.YtnepjcpbahhngaaDoor
open Go Go.RowKit
def fairN (l : List (List (BitVec 8))) : Bool := decide (∀ q ∈ l, q.length ≤ 200) && decide (l.length ≤ 100)
theorem mod5 {m : Nat} (h : m ≤ 4) : modK (m : Int) 5 = m := by
  unfold modK
  match m, h with
  | 0, _ => rfl
  | 1, _ => rfl
  | 2, _ => rfl
  | 3, _ => rfl
  | 4, _ => rfl
section
attribute [local go_sem] strB_size
set_option maxHeartbeats 800000 in
theorem nfair_any (l : List (List (BitVec 8))) (v : Value) (w : World) (hv : Strs w v l) (hl : l.length ≤ maxLen) :
    Calls Tryd.prog 7 #[v] w fun e w' => e = .returned (.bool (fairN l)) ∧ w = w' := by
  obtain ⟨A, c, rfl⟩ : ∃ A c, v = .slice A l.length c := by obtain ⟨A, c, h, _⟩ := hv; exact ⟨A, c, h⟩
  obtain ⟨n, hn⟩ : ∃ n, l.length = n := ⟨_, rfl⟩
  have HN := Lib.hid hn
  rw [hn] at hv hl ⊢
  have HV := Lib.hid hv
  unfold maxLen at hl
  obtain ⟨G, hG⟩ : ∃ G, fairN l = G := ⟨_, rfl⟩
  have HY : Hid ((∀ j < n, (l.getD j []).length ≤ 200) → G = decide (n ≤ 100)) := Lib.hid fun h => by
    rw [← hG]; unfold fairN
    rw [decide_eq_true (show ∀ q ∈ l, q.length ≤ 200 from fun q hq => by
      obtain ⟨j, hj, rfl⟩ := List.getElem_of_mem hq
      have := h j (by omega)
      rwa [List.getD_eq_getElem?_getD, List.getElem?_eq_getElem hj] at this), hn]; rfl
  have HNO : Hid (∀ j < n, ¬ (l.getD j []).length ≤ 200 → G = false) := Lib.hid fun j hj h => by
    rw [← hG]; unfold fairN
    rw [List.getD_eq_getElem?_getD, List.getElem?_eq_getElem (by omega)] at h
    rw [decide_eq_false fun hh => h (hh _ (List.getElem_mem _))]; rfl
  rw [hG]
  clear hn hG hv
  go_enter Tryd.func7, Tryd.ntmps7
  go_wp2_with fail
  go_loopw [3] (fun i wr => ∃ k : Nat, k ≤ n ∧ i = .int .i64 k ∧ (∀ j < k, (l.getD j []).length ≤ 200) ∧ wr = w) (fun i _ => n - (intOf i).toNat)
  case atStart => exact ⟨0, by omega, rfl, fun j hj => by omega, rfl⟩
  case round =>
    obtain ⟨k, hk, rfl, hok, rfl⟩ := hrel
    have HOK := Lib.hid hok
    clear hok
    by_cases hlt : k < n
    · obtain ⟨q, hx⟩ : ∃ x, l[k]? = some x := ⟨_, List.getElem?_eq_getElem (by rw [HN.out]; exact hlt)⟩
      have HQD : Hid (l.getD k [] = q) := Lib.hid (by rw [List.getD_eq_getElem?_getD, hx]; rfl)
      obtain ⟨b, o, rfl, hbw, hcell⟩ := strs_at HV.out hx
      obtain ⟨m, hm⟩ : ∃ m, q.length = m := ⟨_, rfl⟩
      have HML := Lib.hid hm
      have hk0 : (0 : Int) ≤ (k : Int) := by omega
      have hk1 : (k : Int) < (n : Int) := by omega
      have hkd : decide ((k : Int) < (n : Int)) = true := decide_eq_true hk1
      clear hx hbw
      by_cases h2 : 200 < m
      · have hd2 : decide ((200 : Int) < (m : Int)) = true := decide_eq_true (by omega)
        have hG : G = false := HNO.out k hlt (by rw [HQD.out, HML.out]; omega)
        go_wp2_with fail
        go_ret
        first | exact ⟨rfl, rfl⟩ | (rw [hG]; exact ⟨rfl, rfl⟩)
      have hd2 : decide ((200 : Int) < (m : Int)) = false := decide_eq_false (by omega)
      have hw : IntKind.i64.wrap ((k : Int) + 1) = ((k + 1 : Nat) : Int) := by rw [i64_id _ (by omega) (by omega)]; omega
      have HM2 : Hid (m ≤ 200) := Lib.hid (by omega)
      clear h2
      go_wp2_with fail
      refine ⟨⟨k + 1, by omega, by go_num, fun j hj => ?_, trivial⟩, by simp [intOf]; omega⟩
      rcases Nat.lt_succ_iff_lt_or_eq.1 hj with h | h
      · exact HOK.out j h
      · subst h; rw [HQD.out, HML.out]; exact HM2.out
    · have hkd : decide ((k : Int) < (n : Int)) = false := decide_eq_false (by omega)
      have hG : G = decide (n ≤ 100) := HY.out fun j hj => HOK.out j (by omega)
      have hd : decide ((n : Int) ≤ 100) = decide (n ≤ 100) := decide_eq_decide.2 (by omega)
      have HGG := Lib.hid hG
      clear hG
      go_wp2_with fail
      go_ret
      first | exact ⟨rfl, rfl⟩ | (rw [HGG.out]; exact ⟨rfl, rfl⟩) | (rw [HGG.out, hd]; exact ⟨rfl, rfl⟩) | (rw [HGG.out, ← hd]; exact ⟨rfl, rfl⟩)
end
theorem fair_of {l : List (List (BitVec 8))} (h : fairN l = true) : l.length ≤ 100 ∧ ∀ q ∈ l, q.length ≤ 200 := by
  unfold fairN at h
  simp only [Bool.and_eq_true, decide_eq_true_eq] at h
  exact ⟨h.2, h.1⟩
theorem good_succ (l : List (List (BitVec 8))) (k : Nat) (h : k < l.length) : goodNs (l.take (k + 1)) = (goodNs (l.take k) && goodN (l.getD k [])) := by
  unfold goodNs
  rw [List.take_succ_eq_append_getElem h, List.all_append, List.getD_eq_getElem?_getD, List.getElem?_eq_getElem h]; simp
set_option maxRecDepth 20000 in
set_option maxHeartbeats 3200000 in
theorem nback_walk (v : Value) (l : List (List (BitVec 8))) (b : List (BitVec 8)) (w : World) (hv : Strs w v l) (hlm : l.length ≤ maxLen) (hl : b.length = 4) :
    Calls Tryd.prog 4 #[v, .agg (bs b)] w fun e w' => e = .returned (.bool true) ∧ Below w.heap.size w w' := by
  have HL := Lib.hid hl
  have HCK := Lib.hid (cut_ok hl)
  have HCN := Lib.hid (@cut_no b)
  have HCL := Lib.hid (cut_len hl)
  clear hl
  obtain ⟨A, c, rfl⟩ : ∃ A c, v = .slice A l.length c := by obtain ⟨A, c, h, _⟩ := hv; exact ⟨A, c, h⟩
  obtain ⟨n, hn⟩ : ∃ n, l.length = n := ⟨_, rfl⟩
  have HN := Lib.hid hn
  have HLM := Lib.hid hlm
  rw [hn] at hv ⊢
  have HV := Lib.hid hv
  clear hn hv hlm
  have HS := St.nil w noF
  go_enter Tryd.func4, Tryd.ntmps4
  go_upto_region 1 with (first | ((with_reducible refine wpList_plain ?_ ?_); exact rfl; intro KK hKK; refine wp_st_box HS 23 (.tmp 1) rfl _ rfl (bs b) (rfl) (fun g3 W1 HSx => hKK _ _ ?_); clear hKK KK HS; have HS : St w noF [⟨g3, 23, bs b⟩] W1 := HSx; clear HSx))
  have C := Lib.hid (nfair_any l _ W1 (HV.out.below HS.below (Nat.le_refl _)) HLM.out)
  go_wp2_with fail
  refine C.out.mono ?_
  rintro e w1 ⟨rfl, rfl⟩
  clear C
  cases hf : fairN l with
  | false =>
    have HB := Lib.hid HS.below
    clear HS
    go_wp2_with fail
    refine (nwakes_any _).mono ?_
    rintro e w2 ⟨rfl, hb2⟩
    go_wp2_with fail
    go_ret
    exact ⟨rfl, HB.out.trans (hb2.mono HB.out.size)⟩
  | true =>
    have HF := Lib.hid (fair_of hf)
    have HN100 : Hid (n ≤ 100) := Lib.hid (by rw [← HN.out]; exact HF.out.1)
    clear hf
    go_wp2_with fail
    go_loopw [5, 6] (fun g i wr => ∃ k : Nat, k ≤ n ∧ i = .int .i64 k ∧ g = .bool (goodNs (l.take k)) ∧ St w noF [⟨g3, 23, bs b⟩] wr) (fun _ i _ => n - (intOf i).toNat)
    case atStart => exact ⟨0, by omega, rfl, rfl, HS⟩
    case round =>
      clear HS
      obtain ⟨k, hk, rfl, rfl, HS⟩ := hrel
      have hnn := HN100.out
      by_cases hlt : k < n
      · obtain ⟨q, hx⟩ : ∃ x, l[k]? = some x := ⟨_, List.getElem?_eq_getElem (by rw [HN.out]; exact hlt)⟩
        have HSU := Lib.hid (good_succ l k (by rw [HN.out]; exact hlt))
        have hqd : l.getD k [] = q := by rw [List.getD_eq_getElem?_getD, hx]; rfl
        rw [hqd] at HSU
        clear hqd
        have HQM : Hid (q.length ≤ maxLen) := Lib.hid (by have := HF.out.2 q (List.mem_of_getElem? hx); unfold maxLen; omega)
        obtain ⟨bb, o, rfl, hbw, hcell⟩ := strs_at (HV.out.below HS.below (Nat.le_refl _)) hx
        have HX := Lib.hid hx
        clear hx hbw
        have hk0 : (0 : Int) ≤ (k : Int) := by omega
        have hk1 : (k : Int) < (n : Int) := by omega
        have hkd : decide ((k : Int) < (n : Int)) = true := decide_eq_true hk1
        have hw : IntKind.i64.wrap ((k : Int) + 1) = ((k + 1 : Nat) : Int) := by rw [i64_id _ (by omega) (by omega)]; omega
        have CG := Lib.hid (good_any [q] _ _ (strs1 wr q HQM.out 9) (by unfold maxLen; simp))
        have e1 : goodNs [q] = goodN q := by unfold goodNs; simp
        rw [e1] at CG
        clear e1
        have HS1 : St w noF [⟨g3, 23, bs b⟩] (wr.alloc (.cells #[.string (strB q)] 9)) := HS.same (Same.alloc _ _)
        clear hcell
        obtain ⟨b2, o2, hb2', _, hcell⟩ := strs_at (HV.out.below HS.below (Nat.le_refl _)) HX.out
        injection hb2' with hb2'
        injection hb2' with e2 e3 _
        subst e2 e3
        generalize goodNs (l.take k) = G at *
        cases G with
        | false =>
          go_wp2_with fail
          refine CG.out.mono ?_
          rintro e w2 ⟨rfl, hb2⟩
          have HS2 : St w noF [⟨g3, 23, bs b⟩] w2 := HS1.same hb2
          clear HS HS1 hb2 CG hcell
          obtain ⟨b2, o2, hb2', _, hcell⟩ := strs_at (HV.out.below HS2.below (Nat.le_refl _)) HX.out
          injection hb2' with hb2'
          injection hb2' with e2 e3 _
          subst e2 e3
          have CP := Lib.hid (pad_any q w2)
          go_wp2_with fail
          refine CP.out.mono ?_
          rintro e w3 ⟨rfl, hb3⟩
          have HS3 : St w noF [⟨g3, 23, bs b⟩] w3 := HS2.same hb3
          clear HS2 hb3 CP hcell
          have CC := Lib.hid (cut_any (padN q) w3 (length_padN q))
          have HCP := Lib.hid (@cut_pad q)
          generalize padN q = p at *
          obtain ⟨⟨t, ok⟩, hz⟩ : ∃ z, cutN p = z := ⟨_, rfl⟩
          rw [hz] at CC HCP
          clear hz
          simp only at CC
          go_wp2_with fail
          refine CC.out.mono ?_
          rintro e w4 ⟨rfl, hb4⟩
          have HS4 : St w noF [⟨g3, 23, bs b⟩] w4 := HS3.same hb4
          clear HS3 hb4 CC
          obtain ⟨b2, o2, hb2', _, hcell⟩ := strs_at (HV.out.below HS4.below (Nat.le_refl _)) HX.out
          injection hb2' with hb2'
          injection hb2' with e2 e3 _
          subst e2 e3
          cases hg : goodN q with
          | true =>
            rw [hg] at HSU
            have hz := HCP.out hg
            injection hz with ht hk'
            subst ht hk'
            have hq2 := str_beq t t
            rw [decide_eq_true rfl] at hq2
            clear hg HCP
            go_wp2_with fail
            exact ⟨⟨k + 1, by omega, by go_num, by rw [HSU.out]; first | done | rfl | simp, HS4⟩, by simp [intOf]; omega⟩
          | false =>
            rw [hg] at HSU
            clear hg HCP
            go_wp2_with fail
            exact ⟨⟨k + 1, by omega, by go_num, by rw [HSU.out]; first | done | rfl | simp, HS4⟩, by simp [intOf]; omega⟩
        | true =>
          go_wp2_with fail
          refine CG.out.mono ?_
          rintro e w2 ⟨rfl, hb2⟩
          have HS2 : St w noF [⟨g3, 23, bs b⟩] w2 := HS1.same hb2
          clear HS HS1 hb2 CG hcell
          obtain ⟨b2, o2, hb2', _, hcell⟩ := strs_at (HV.out.below HS2.below (Nat.le_refl _)) HX.out
          injection hb2' with hb2'
          injection hb2' with e2 e3 _
          subst e2 e3
          have CP := Lib.hid (pad_any q w2)
          go_wp2_with fail
          refine CP.out.mono ?_
          rintro e w3 ⟨rfl, hb3⟩
          have HS3 : St w noF [⟨g3, 23, bs b⟩] w3 := HS2.same hb3
          clear HS2 hb3 CP hcell
          have CC := Lib.hid (cut_any (padN q) w3 (length_padN q))
          have HCP := Lib.hid (@cut_pad q)
          generalize padN q = p at *
          obtain ⟨⟨t, ok⟩, hz⟩ : ∃ z, cutN p = z := ⟨_, rfl⟩
          rw [hz] at CC HCP
          clear hz
          simp only at CC
          go_wp2_with fail
          refine CC.out.mono ?_
          rintro e w4 ⟨rfl, hb4⟩
          have HS4 : St w noF [⟨g3, 23, bs b⟩] w4 := HS3.same hb4
          clear HS3 hb4 CC
          obtain ⟨b2, o2, hb2', _, hcell⟩ := strs_at (HV.out.below HS4.below (Nat.le_refl _)) HX.out
          injection hb2' with hb2'
          injection hb2' with e2 e3 _
          subst e2 e3
          cases hg : goodN q with
          | true =>
            rw [hg] at HSU
            have hz := HCP.out hg
            injection hz with ht hk'
            subst ht hk'
            have hq2 := str_beq t t
            rw [decide_eq_true rfl] at hq2
            clear hg HCP
            go_wp2_with fail
            exact ⟨⟨k + 1, by omega, by go_num, by rw [HSU.out]; first | done | rfl | simp, HS4⟩, by simp [intOf]; omega⟩
          | false =>
            rw [hg] at HSU
            clear hg HCP
            go_wp2_with fail
            exact ⟨⟨k + 1, by omega, by go_num, by rw [HSU.out]; first | done | rfl | simp, HS4⟩, by simp [intOf]; omega⟩
      · obtain rfl : k = n := by omega
        have hkd : decide ((k : Int) < (k : Int)) = false := decide_eq_false (by omega)
        have hlk : l.take k = l := List.take_of_length_le (by rw [HN.out]; exact Nat.le_refl _)
        rw [hlk]
        have CG := Lib.hid (good_any l _ wr (HV.out.below HS.below (Nat.le_refl _)) HLM.out)
        generalize goodNs l = G at *
        clear hlk
        go_wp2_with fail
        refine CG.out.mono ?_
        rintro e w2 ⟨rfl, hb2⟩
        have HS2 : St w noF [⟨g3, 23, bs b⟩] w2 := HS.same hb2
        clear HS hb2 CG
        have HS := HS2
        clear HS2
        have hgg : (G == G) = true := beq_self_eq_true G
        have hgn : (G != G) = false := by rw [bne, hgg]; rfl
        have CC := Lib.hid (cut_any b w2 HL.out)
        obtain ⟨⟨t, ok⟩, hz⟩ : ∃ z, cutN b = z := ⟨_, rfl⟩
        rw [hz] at CC HCK HCN HCL
        clear hz
        simp only at CC
        have HTL : Hid (t.length ≤ 4) := HCL
        have HTM : Hid (t.length ≤ maxLen) := Lib.hid (by have := HTL.out; unfold maxLen; omega)
        go_wp2_with (first | ((with_reducible refine wpList_plain ?_ ?_); exact rfl; intro KK hKK; refine wp_st_load HS 0 0 23 (.tmp 3) rfl rfl rfl (bs b) (slab_whole _) _ Tryd.underlying23 rfl (by rw [size_bs, HL.out]; exact size_b4) (hKK _ _ ?_); clear hKK KK))
        refine CC.out.mono ?_
        rintro e w3 ⟨rfl, hb3⟩
        have HS3 : St w noF [⟨g3, 23, bs b⟩] w3 := HS.same hb3
        clear HS hb3 CC hgg hgn
        go_upto_region 15 with fail
        have hF0 : Wl [fun W => St w noF [⟨g3, 23, bs b⟩] W] 0 w3.drew := HS3.drew
        clear HS3
        have H0 := Lib.hid (str_emp t)
        have HN1 := Lib.hid (str_nil t)
        cases ok with
        | false =>
          have ht0 : t = [] := HCN.out rfl
          rw [decide_eq_true ht0] at H0
          have HN1 : Hid ((strB t).toList = []) := Lib.hid (HN1.out.2 ht0)
          clear HCN HCK HCL ht0
          refine wp_region_phs [is (.bool false), is (.bool false), is undef, is undef, is undef, is undef, is (.bool false), is (.bool false), is (.bool false), is (.bool true), is (.bool true), is (.string (strB t)), is (.bool false), is (.bool false), is (.bool false), is (.bool false), is (.bool false), is (.bool false), is undef, is undef, is (.bool false), is (.bool false), is undef, is undef, is undef, is undef, is (.bool false), is (.bool false)] [true, true, true, true, true, true, true, true, true, true, true, true, true, true, true, true, true, true, true, true, true, true, true, true, true, true, true, true] [(fun W => St w noF [⟨g3, 23, bs b⟩] W)] [false, false, false, false, false, false, false, false, false, false, false, false, false, false, false, false, false, false, false, false, false, false, false, false, false, false, false, false] [some 0, some 0, some 0, some 0, some 0, some 0, some 0, some 0, some 0, some 0, some 0, some 0, some 0, some 0, some 0, some 0, some 0, some 0, some 0, some 0, some 0, some 0, some 0, some 0, some 0, some 0, some 0, some 0] [some 63, some 64, some 65, some 66, some 67, some 68, some 69, some 70, some 71, some 72, some 73, some 74, some 75, some 76, some 77, some 78, some 79, some 80, some 81, some 82, some 83, some 84, some 85, some 86, some 87, some 88, some 89, some 90] 28 0 (fun i => !([2, 3, 4, 5, 18, 19, 22, 23, 24, 25] : List Nat).contains i) rfl rfl (by kernel_rfl) (by kernel_rfl) (by kernel_rfl) (by kernel_rfl) ?_ ?_ ?_ ?_ ?_ ?_
          · repeat first | exact wok_nil | refine wok_cons (by first | exact fun _ _ h k => h.same k) ?_
          · repeat first | exact vok_nil | refine vok_rig (by first | exact fun _ _ _ h => h) ?_ | refine vok_soft (by first | exact fun _ _ _ h _ => h) ?_
          · exact hF0
          · repeat first | exact all_end (by decide) | refine all_cons (by first | exact rfl | exact ⟨rfl, fun _ _ h => Or.inl h⟩ | exact ⟨rfl, fun _ _ h => Or.inr ⟨h, rfl⟩⟩) ?_
          · refine allp_mild 0 rfl rfl rfl (fun a x W hout hin hP => ?_) ?_
            · have e11 : a.tmps[11]? = some (.bool false) := (hout 11 (by kernel_rfl)).trans rfl
              exact does_move rfl e11 ⟨Same.refl _, rfl⟩
            refine allp_mild 0 rfl rfl rfl (fun a x W hout hin hP => ?_) ?_
            · have e63 := hin.is 0 63 (by kernel_rfl) (by decide) (by kernel_rfl) (by kernel_rfl) _ rfl
              exact does_move rfl e63 ⟨Same.refl _, rfl⟩
            refine allp_skip rfl rfl (fun _ => rfl) ?_
            refine allp_skip rfl rfl (fun _ => rfl) ?_
            refine allp_skip rfl rfl (fun _ => rfl) ?_
            refine allp_skip rfl rfl (fun _ => rfl) ?_
            refine allp_mild 0 rfl rfl rfl (fun a x W hout hin hP => ?_) ?_
            · have e64 := hin.is 1 64 (by kernel_rfl) (by decide) (by kernel_rfl) (by kernel_rfl) _ rfl
              have e68 := hin.is 5 68 (by kernel_rfl) (by decide) (by kernel_rfl) (by kernel_rfl) _ rfl
              exact does_pick rfl e64 ⟨Same.refl _, rfl⟩
            refine allp_mild 0 rfl rfl rfl (fun a x W hout hin hP => ?_) ?_
            · have e69 := hin.is 6 69 (by kernel_rfl) (by decide) (by kernel_rfl) (by kernel_rfl) _ rfl
              exact does_move rfl e69 ⟨Same.refl _, rfl⟩
            refine allp_mild 0 rfl rfl rfl (fun a x W hout hin hP => ?_) ?_
            · have e11 : a.tmps[11]? = some (.bool false) := (hout 11 (by kernel_rfl)).trans rfl
              exact does_move rfl e11 ⟨Same.refl _, rfl⟩
            refine allp_mild 0 rfl rfl rfl (fun a x W hout hin hP => ?_) ?_
            · have e71 := hin.is 8 71 (by kernel_rfl) (by decide) (by kernel_rfl) (by kernel_rfl) _ rfl
              exact does_not rfl e71 ⟨Same.refl _, rfl⟩
            refine allp_mild 0 rfl rfl rfl (fun a x W hout hin hP => ?_) ?_
            · have e72 := hin.is 9 72 (by kernel_rfl) (by decide) (by kernel_rfl) (by kernel_rfl) _ rfl
              exact does_move rfl e72 ⟨Same.refl _, rfl⟩
            refine allp_mild 0 rfl rfl rfl (fun a x W hout hin hP => ?_) ?_
            · have e10 : a.tmps[10]? = some (.string (strB t)) := (hout 10 (by kernel_rfl)).trans rfl
              exact does_move rfl e10 ⟨Same.refl _, rfl⟩
            refine allp_mild 0 rfl rfl rfl (fun a x W hout hin hP => ?_) ?_
            · have e74 := hin.is 11 74 (by kernel_rfl) (by decide) (by kernel_rfl) (by kernel_rfl) _ rfl
              have h0 := H0.out
              have hn1 := HN1.out
              clear hP
              clear hin hout
              intro K0 Q hK
              go_simp
              exact hK _ _ ⟨Same.refl _, rfl⟩
            refine allp_mild 0 rfl rfl rfl (fun a x W hout hin hP => ?_) ?_
            · have e73 := hin.is 10 73 (by kernel_rfl) (by decide) (by kernel_rfl) (by kernel_rfl) _ rfl
              have e75 := hin.is 12 75 (by kernel_rfl) (by decide) (by kernel_rfl) (by kernel_rfl) _ rfl
              exact does_pick rfl e73 ⟨Same.refl _, eval_of_get e75⟩
            refine allp_mild 0 rfl rfl rfl (fun a x W hout hin hP => ?_) ?_
            · have e70 := hin.is 7 70 (by kernel_rfl) (by decide) (by kernel_rfl) (by kernel_rfl) _ rfl
              have e76 := hin.is 13 76 (by kernel_rfl) (by decide) (by kernel_rfl) (by kernel_rfl) _ rfl
              exact does_pick rfl e70 ⟨Same.refl _, eval_of_get e76⟩
            refine allp_mild 0 rfl rfl rfl (fun a x W hout hin hP => ?_) ?_
            · have e77 := hin.is 14 77 (by kernel_rfl) (by decide) (by kernel_rfl) (by kernel_rfl) _ rfl
              exact does_move rfl e77 ⟨Same.refl _, rfl⟩
            refine allp_mild 0 rfl rfl rfl (fun a x W hout hin hP => ?_) ?_
            · have e11 : a.tmps[11]? = some (.bool false) := (hout 11 (by kernel_rfl)).trans rfl
              exact does_move rfl e11 ⟨Same.refl _, rfl⟩
            refine allp_mild 0 rfl rfl rfl (fun a x W hout hin hP => ?_) ?_
            · have e79 := hin.is 16 79 (by kernel_rfl) (by decide) (by kernel_rfl) (by kernel_rfl) _ rfl
              exact does_move rfl e79 ⟨Same.refl _, rfl⟩
            refine allp_skip rfl rfl (fun _ => rfl) ?_
            refine allp_skip rfl rfl (fun _ => rfl) ?_
            refine allp_mild 0 rfl rfl rfl (fun a x W hout hin hP => ?_) ?_
            · have e80 := hin.is 17 80 (by kernel_rfl) (by decide) (by kernel_rfl) (by kernel_rfl) _ rfl
              have e82 := hin.is 19 82 (by kernel_rfl) (by decide) (by kernel_rfl) (by kernel_rfl) _ rfl
              exact does_pick rfl e80 ⟨Same.refl _, rfl⟩
            refine allp_mild 0 rfl rfl rfl (fun a x W hout hin hP => ?_) ?_
            · have e83 := hin.is 20 83 (by kernel_rfl) (by decide) (by kernel_rfl) (by kernel_rfl) _ rfl
              exact does_move rfl e83 ⟨Same.refl _, rfl⟩
            refine allp_skip rfl rfl (fun _ => rfl) ?_
            refine allp_skip rfl rfl (fun _ => rfl) ?_
            refine allp_skip rfl rfl (fun _ => rfl) ?_
            refine allp_skip rfl rfl (fun _ => rfl) ?_
            refine allp_mild 0 rfl rfl rfl (fun a x W hout hin hP => ?_) ?_
            · have e84 := hin.is 21 84 (by kernel_rfl) (by decide) (by kernel_rfl) (by kernel_rfl) _ rfl
              have e88 := hin.is 25 88 (by kernel_rfl) (by decide) (by kernel_rfl) (by kernel_rfl) _ rfl
              exact does_pick rfl e84 ⟨Same.refl _, rfl⟩
            refine allp_mild 0 rfl rfl rfl (fun a x W hout hin hP => ?_) ?_
            · have e78 := hin.is 15 78 (by kernel_rfl) (by decide) (by kernel_rfl) (by kernel_rfl) _ rfl
              have e89 := hin.is 26 89 (by kernel_rfl) (by decide) (by kernel_rfl) (by kernel_rfl) _ rfl
              exact does_pick rfl e78 ⟨Same.refl _, eval_of_get e89⟩
            exact all_end (by decide)
          · intro x W hP hV
            have h : x 27 = .bool false := hV 27 (by decide) (.inl (by kernel_rfl))
            have HB := Lib.hid (St.below hP)
            clear hV hP
            simp only [putL, Act.put, List.setIfInBounds_toArray, List.set_cons_succ, List.set_cons_zero, h]
            refine wpAnyH_done (by kernel_rfl) ?_ _
            clear h
            have CM := Lib.hid (fun W' => mod_any (t.length : Int) 5 W' (by decide) (by decide))
            have HM5 := Lib.hid (mod5 HTL.out)
            obtain ⟨m, hm⟩ : ∃ m, t.length = m := ⟨_, rfl⟩
            rw [hm] at CM HM5
            have hsz : (strB t).size = m := by rw [strB_size, hm]
            clear hm
            rw [HM5.out] at CM
            go_wp2_with fail
            refine (CM.out _).mono ?_
            rintro e w9 ⟨rfl, rfl⟩
            go_wp2_with fail
            refine (nwakes_any _).mono ?_
            rintro e w10 ⟨rfl, hb10⟩
            go_wp2_with fail
            go_ret
            exact ⟨rfl, HB.out.trans (hb10.mono HB.out.size)⟩
        | true =>
          have HPB : Hid (padN t = b) := Lib.hid (HCK.out rfl).1
          by_cases ht0 : t = []
          · rw [decide_eq_true ht0] at H0
            have HN1 : Hid ((strB t).toList = []) := Lib.hid (HN1.out.2 ht0)
            clear HCN HCK HCL ht0
            refine wp_region_phs [is (.bool true), is (.bool true), is (.string (strB t)), is (.agg (bs (padN t))), is (.agg (bs b)), is (.bool false), is (.bool false), is (.bool false), is (.bool true), is (.bool false), is (.bool false), is undef, is undef, is (.bool false), is (.bool false), is (.bool false), is (.bool true), is (.bool true), is (.string (strB t)), is (.bool false), is (.bool false), is (.bool false), is undef, is undef, is undef, is undef, is (.bool false), is (.bool false)] [true, true, true, true, true, true, true, true, true, true, true, true, true, true, true, true, true, true, true, true, true, true, true, true, true, true, true, true] [(fun W => St w noF [⟨g3, 23, bs b⟩] W)] [false, false, false, false, false, false, false, false, false, false, false, false, false, false, false, false, false, false, false, false, false, false, false, false, false, false, false, false] [some 0, some 0, some 0, some 0, some 0, some 0, some 0, some 0, some 0, some 0, some 0, some 0, some 0, some 0, some 0, some 0, some 0, some 0, some 0, some 0, some 0, some 0, some 0, some 0, some 0, some 0, some 0, some 0] [some 63, some 64, some 65, some 66, some 67, some 68, some 69, some 70, some 71, some 72, some 73, some 74, some 75, some 76, some 77, some 78, some 79, some 80, some 81, some 82, some 83, some 84, some 85, some 86, some 87, some 88, some 89, some 90] 28 0 (fun i => !([11, 12, 22, 23, 24, 25] : List Nat).contains i) rfl rfl (by kernel_rfl) (by kernel_rfl) (by kernel_rfl) (by kernel_rfl) ?_ ?_ ?_ ?_ ?_ ?_
            · repeat first | exact wok_nil | refine wok_cons (by first | exact fun _ _ h k => h.same k) ?_
            · repeat first | exact vok_nil | refine vok_rig (by first | exact fun _ _ _ h => h) ?_ | refine vok_soft (by first | exact fun _ _ _ h _ => h) ?_
            · exact hF0
            · repeat first | exact all_end (by decide) | refine all_cons (by first | exact rfl | exact ⟨rfl, fun _ _ h => Or.inl h⟩ | exact ⟨rfl, fun _ _ h => Or.inr ⟨h, rfl⟩⟩) ?_
            · refine allp_mild 0 rfl rfl rfl (fun a x W hout hin hP => ?_) ?_
              · have e11 : a.tmps[11]? = some (.bool true) := (hout 11 (by kernel_rfl)).trans rfl
                exact does_move rfl e11 ⟨Same.refl _, rfl⟩
              refine allp_mild 0 rfl rfl rfl (fun a x W hout hin hP => ?_) ?_
              · have e63 := hin.is 0 63 (by kernel_rfl) (by decide) (by kernel_rfl) (by kernel_rfl) _ rfl
                exact does_move rfl e63 ⟨Same.refl _, rfl⟩
              refine allp_mild 0 rfl rfl rfl (fun a x W hout hin hP => ?_) ?_
              · have e10 : a.tmps[10]? = some (.string (strB t)) := (hout 10 (by kernel_rfl)).trans rfl
                exact does_move rfl e10 ⟨Same.refl _, rfl⟩
              refine allp_mild 0 rfl rfl rfl (fun a x W hout hin hP => ?_) ?_
              · have e65 := hin.is 2 65 (by kernel_rfl) (by decide) (by kernel_rfl) (by kernel_rfl) _ rfl
                have C := pad_any t W
                clear hP
                clear hin hout
                intro K0 Q hK
                go_simp
                refine C.mono ?_
                rintro e W' ⟨rfl, hb⟩
                exact hK _ _ ⟨hb, rfl⟩
              refine allp_mild 0 rfl rfl rfl (fun a x W hout hin hP => ?_) ?_
              · have e3 : a.tmps[3]? = some (.pointer (some ⟨g3, 0, none⟩)) := (hout 3 (by kernel_rfl)).trans rfl
                clear hin hout
                intro K0 Q hK
                exact wp_st_load hP 0 0 23 (.tmp 3) rfl rfl (eval_of_get e3) (bs b) (slab_whole _) _ Tryd.underlying23 rfl (by rw [size_bs, HL.out]; exact size_b4) (hK _ _ ⟨Same.refl _, rfl⟩)
              refine allp_mild 0 rfl rfl rfl (fun a x W hout hin hP => ?_) ?_
              · have e66 := hin.is 3 66 (by kernel_rfl) (by decide) (by kernel_rfl) (by kernel_rfl) _ rfl
                have e67 := hin.is 4 67 (by kernel_rfl) (by decide) (by kernel_rfl) (by kernel_rfl) _ rfl
                have q := neq_b4 (padN t) b (length_padN t) HL.out W
                rw [decide_eq_true HPB.out] at q
                clear hP
                clear hin hout
                intro K0 Q hK
                go_simp
                exact hK _ _ ⟨Same.refl _, rfl⟩
              refine allp_mild 0 rfl rfl rfl (fun a x W hout hin hP => ?_) ?_
              · have e64 := hin.is 1 64 (by kernel_rfl) (by decide) (by kernel_rfl) (by kernel_rfl) _ rfl
                have e68 := hin.is 5 68 (by kernel_rfl) (by decide) (by kernel_rfl) (by kernel_rfl) _ rfl
                exact does_pick rfl e64 ⟨Same.refl _, eval_of_get e68⟩
              refine allp_mild 0 rfl rfl rfl (fun a x W hout hin hP => ?_) ?_
              · have e69 := hin.is 6 69 (by kernel_rfl) (by decide) (by kernel_rfl) (by kernel_rfl) _ rfl
                exact does_move rfl e69 ⟨Same.refl _, rfl⟩
              refine allp_mild 0 rfl rfl rfl (fun a x W hout hin hP => ?_) ?_
              · have e11 : a.tmps[11]? = some (.bool true) := (hout 11 (by kernel_rfl)).trans rfl
                exact does_move rfl e11 ⟨Same.refl _, rfl⟩
              refine allp_mild 0 rfl rfl rfl (fun a x W hout hin hP => ?_) ?_
              · have e71 := hin.is 8 71 (by kernel_rfl) (by decide) (by kernel_rfl) (by kernel_rfl) _ rfl
                exact does_not rfl e71 ⟨Same.refl _, rfl⟩
              refine allp_mild 0 rfl rfl rfl (fun a x W hout hin hP => ?_) ?_
              · have e72 := hin.is 9 72 (by kernel_rfl) (by decide) (by kernel_rfl) (by kernel_rfl) _ rfl
                exact does_move rfl e72 ⟨Same.refl _, rfl⟩
              refine allp_skip rfl rfl (fun _ => rfl) ?_
              refine allp_skip rfl rfl (fun _ => rfl) ?_
              refine allp_mild 0 rfl rfl rfl (fun a x W hout hin hP => ?_) ?_
              · have e73 := hin.is 10 73 (by kernel_rfl) (by decide) (by kernel_rfl) (by kernel_rfl) _ rfl
                have e75 := hin.is 12 75 (by kernel_rfl) (by decide) (by kernel_rfl) (by kernel_rfl) _ rfl
                exact does_pick rfl e73 ⟨Same.refl _, rfl⟩
              refine allp_mild 0 rfl rfl rfl (fun a x W hout hin hP => ?_) ?_
              · have e70 := hin.is 7 70 (by kernel_rfl) (by decide) (by kernel_rfl) (by kernel_rfl) _ rfl
                have e76 := hin.is 13 76 (by kernel_rfl) (by decide) (by kernel_rfl) (by kernel_rfl) _ rfl
                exact does_pick rfl e70 ⟨Same.refl _, eval_of_get e76⟩
              refine allp_mild 0 rfl rfl rfl (fun a x W hout hin hP => ?_) ?_
              · have e77 := hin.is 14 77 (by kernel_rfl) (by decide) (by kernel_rfl) (by kernel_rfl) _ rfl
                exact does_move rfl e77 ⟨Same.refl _, rfl⟩
              refine allp_mild 0 rfl rfl rfl (fun a x W hout hin hP => ?_) ?_
              · have e11 : a.tmps[11]? = some (.bool true) := (hout 11 (by kernel_rfl)).trans rfl
                exact does_move rfl e11 ⟨Same.refl _, rfl⟩
              refine allp_mild 0 rfl rfl rfl (fun a x W hout hin hP => ?_) ?_
              · have e79 := hin.is 16 79 (by kernel_rfl) (by decide) (by kernel_rfl) (by kernel_rfl) _ rfl
                exact does_move rfl e79 ⟨Same.refl _, rfl⟩
              refine allp_mild 0 rfl rfl rfl (fun a x W hout hin hP => ?_) ?_
              · have e10 : a.tmps[10]? = some (.string (strB t)) := (hout 10 (by kernel_rfl)).trans rfl
                exact does_move rfl e10 ⟨Same.refl _, rfl⟩
              refine allp_mild 0 rfl rfl rfl (fun a x W hout hin hP => ?_) ?_
              · have e81 := hin.is 18 81 (by kernel_rfl) (by decide) (by kernel_rfl) (by kernel_rfl) _ rfl
                have h0 := H0.out
                have hn1 := HN1.out
                clear hP
                clear hin hout
                intro K0 Q hK
                go_simp
                exact hK _ _ ⟨Same.refl _, rfl⟩
              refine allp_mild 0 rfl rfl rfl (fun a x W hout hin hP => ?_) ?_
              · have e80 := hin.is 17 80 (by kernel_rfl) (by decide) (by kernel_rfl) (by kernel_rfl) _ rfl
                have e82 := hin.is 19 82 (by kernel_rfl) (by decide) (by kernel_rfl) (by kernel_rfl) _ rfl
                exact does_pick rfl e80 ⟨Same.refl _, eval_of_get e82⟩
              refine allp_mild 0 rfl rfl rfl (fun a x W hout hin hP => ?_) ?_
              · have e83 := hin.is 20 83 (by kernel_rfl) (by decide) (by kernel_rfl) (by kernel_rfl) _ rfl
                exact does_move rfl e83 ⟨Same.refl _, rfl⟩
              refine allp_skip rfl rfl (fun _ => rfl) ?_
              refine allp_skip rfl rfl (fun _ => rfl) ?_
              refine allp_skip rfl rfl (fun _ => rfl) ?_
              refine allp_skip rfl rfl (fun _ => rfl) ?_
              refine allp_mild 0 rfl rfl rfl (fun a x W hout hin hP => ?_) ?_
              · have e84 := hin.is 21 84 (by kernel_rfl) (by decide) (by kernel_rfl) (by kernel_rfl) _ rfl
                have e88 := hin.is 25 88 (by kernel_rfl) (by decide) (by kernel_rfl) (by kernel_rfl) _ rfl
                exact does_pick rfl e84 ⟨Same.refl _, rfl⟩
              refine allp_mild 0 rfl rfl rfl (fun a x W hout hin hP => ?_) ?_
              · have e78 := hin.is 15 78 (by kernel_rfl) (by decide) (by kernel_rfl) (by kernel_rfl) _ rfl
                have e89 := hin.is 26 89 (by kernel_rfl) (by decide) (by kernel_rfl) (by kernel_rfl) _ rfl
                exact does_pick rfl e78 ⟨Same.refl _, eval_of_get e89⟩
              exact all_end (by decide)
            · intro x W hP hV
              have h : x 27 = .bool false := hV 27 (by decide) (.inl (by kernel_rfl))
              have HB := Lib.hid (St.below hP)
              clear hV hP
              simp only [putL, Act.put, List.setIfInBounds_toArray, List.set_cons_succ, List.set_cons_zero, h]
              refine wpAnyH_done (by kernel_rfl) ?_ _
              clear h
              have CM := Lib.hid (fun W' => mod_any (t.length : Int) 5 W' (by decide) (by decide))
              have HM5 := Lib.hid (mod5 HTL.out)
              obtain ⟨m, hm⟩ : ∃ m, t.length = m := ⟨_, rfl⟩
              rw [hm] at CM HM5
              have hsz : (strB t).size = m := by rw [strB_size, hm]
              clear hm
              rw [HM5.out] at CM
              go_wp2_with fail
              refine (CM.out _).mono ?_
              rintro e w9 ⟨rfl, rfl⟩
              go_wp2_with fail
              refine (nwakes_any _).mono ?_
              rintro e w10 ⟨rfl, hb10⟩
              go_wp2_with fail
              go_ret
              exact ⟨rfl, HB.out.trans (hb10.mono HB.out.size)⟩
          · rw [decide_eq_false ht0] at H0
            have HN1 : Hid (¬ (strB t).toList = []) := Lib.hid fun h => ht0 (HN1.out.1 h)
            have HG : Hid (goodN t = true) := Lib.hid ((HCK.out rfl).2.resolve_left ht0)
            clear HCN HCK HCL ht0
            refine wp_region_phs [is (.bool true), is (.bool true), is (.string (strB t)), is (.agg (bs (padN t))), is (.agg (bs b)), is (.bool false), is (.bool false), is (.bool false), is (.bool true), is (.bool false), is (.bool false), is undef, is undef, is (.bool false), is (.bool false), is (.bool false), is (.bool true), is (.bool true), is (.string (strB t)), is (.bool true), is (.bool true), is (.bool true), is (.string (strB t)), (fun v W => Strs W v [t]), is (.bool true), is (.bool false), is (.bool false), is (.bool false)] [true, true, true, true, true, true, true, true, true, true, true, true, true, true, true, true, true, true, true, true, true, true, true, false, true, true, true, true] [(fun W => St w noF [⟨g3, 23, bs b⟩] W)] [false, false, false, false, false, false, false, false, false, false, false, false, false, false, false, false, false, false, false, false, false, false, false, false, false, false, false, false] [some 0, some 0, some 0, some 0, some 0, some 0, some 0, some 0, some 0, some 0, some 0, some 0, some 0, some 0, some 0, some 0, some 0, some 0, some 0, some 0, some 0, some 0, some 0, some 0, some 0, some 0, some 0, some 0] [some 63, some 64, some 65, some 66, some 67, some 68, some 69, some 70, some 71, some 72, some 73, some 74, some 75, some 76, some 77, some 78, some 79, some 80, some 81, some 82, some 83, some 84, some 85, some 86, some 87, some 88, some 89, some 90] 28 0 (fun i => !([11, 12] : List Nat).contains i) rfl rfl (by kernel_rfl) (by kernel_rfl) (by kernel_rfl) (by kernel_rfl) ?_ ?_ ?_ ?_ ?_ ?_
            · repeat first | exact wok_nil | refine wok_cons (by first | exact fun _ _ h k => h.same k) ?_
            · repeat first | exact vok_nil | refine vok_rig (by first | exact fun _ _ _ h => h) ?_ | refine vok_soft (by first | exact fun _ _ _ h _ => h | exact fun _ _ _ h k => Strs.below h k (Nat.le_refl _)) ?_
            · exact hF0
            · repeat first | exact all_end (by decide) | refine all_cons (by first | exact rfl | exact ⟨rfl, fun _ _ h => Or.inl h⟩ | exact ⟨rfl, fun _ _ h => Or.inr ⟨h, rfl⟩⟩) ?_
            · refine allp_mild 0 rfl rfl rfl (fun a x W hout hin hP => ?_) ?_
              · have e11 : a.tmps[11]? = some (.bool true) := (hout 11 (by kernel_rfl)).trans rfl
                exact does_move rfl e11 ⟨Same.refl _, rfl⟩
              refine allp_mild 0 rfl rfl rfl (fun a x W hout hin hP => ?_) ?_
              · have e63 := hin.is 0 63 (by kernel_rfl) (by decide) (by kernel_rfl) (by kernel_rfl) _ rfl
                exact does_move rfl e63 ⟨Same.refl _, rfl⟩
              refine allp_mild 0 rfl rfl rfl (fun a x W hout hin hP => ?_) ?_
              · have e10 : a.tmps[10]? = some (.string (strB t)) := (hout 10 (by kernel_rfl)).trans rfl
                exact does_move rfl e10 ⟨Same.refl _, rfl⟩
              refine allp_mild 0 rfl rfl rfl (fun a x W hout hin hP => ?_) ?_
              · have e65 := hin.is 2 65 (by kernel_rfl) (by decide) (by kernel_rfl) (by kernel_rfl) _ rfl
                have C := pad_any t W
                clear hP
                clear hin hout
                intro K0 Q hK
                go_simp
                refine C.mono ?_
                rintro e W' ⟨rfl, hb⟩
                exact hK _ _ ⟨hb, rfl⟩
              refine allp_mild 0 rfl rfl rfl (fun a x W hout hin hP => ?_) ?_
              · have e3 : a.tmps[3]? = some (.pointer (some ⟨g3, 0, none⟩)) := (hout 3 (by kernel_rfl)).trans rfl
                clear hin hout
                intro K0 Q hK
                exact wp_st_load hP 0 0 23 (.tmp 3) rfl rfl (eval_of_get e3) (bs b) (slab_whole _) _ Tryd.underlying23 rfl (by rw [size_bs, HL.out]; exact size_b4) (hK _ _ ⟨Same.refl _, rfl⟩)
              refine allp_mild 0 rfl rfl rfl (fun a x W hout hin hP => ?_) ?_
              · have e66 := hin.is 3 66 (by kernel_rfl) (by decide) (by kernel_rfl) (by kernel_rfl) _ rfl
                have e67 := hin.is 4 67 (by kernel_rfl) (by decide) (by kernel_rfl) (by kernel_rfl) _ rfl
                have q := neq_b4 (padN t) b (length_padN t) HL.out W
                rw [decide_eq_true HPB.out] at q
                clear hP
                clear hin hout
                intro K0 Q hK
                go_simp
                exact hK _ _ ⟨Same.refl _, rfl⟩
              refine allp_mild 0 rfl rfl rfl (fun a x W hout hin hP => ?_) ?_
              · have e64 := hin.is 1 64 (by kernel_rfl) (by decide) (by kernel_rfl) (by kernel_rfl) _ rfl
                have e68 := hin.is 5 68 (by kernel_rfl) (by decide) (by kernel_rfl) (by kernel_rfl) _ rfl
                exact does_pick rfl e64 ⟨Same.refl _, eval_of_get e68⟩
              refine allp_mild 0 rfl rfl rfl (fun a x W hout hin hP => ?_) ?_
              · have e69 := hin.is 6 69 (by kernel_rfl) (by decide) (by kernel_rfl) (by kernel_rfl) _ rfl
                exact does_move rfl e69 ⟨Same.refl _, rfl⟩
              refine allp_mild 0 rfl rfl rfl (fun a x W hout hin hP => ?_) ?_
              · have e11 : a.tmps[11]? = some (.bool true) := (hout 11 (by kernel_rfl)).trans rfl
                exact does_move rfl e11 ⟨Same.refl _, rfl⟩
              refine allp_mild 0 rfl rfl rfl (fun a x W hout hin hP => ?_) ?_
              · have e71 := hin.is 8 71 (by kernel_rfl) (by decide) (by kernel_rfl) (by kernel_rfl) _ rfl
                exact does_not rfl e71 ⟨Same.refl _, rfl⟩
              refine allp_mild 0 rfl rfl rfl (fun a x W hout hin hP => ?_) ?_
              · have e72 := hin.is 9 72 (by kernel_rfl) (by decide) (by kernel_rfl) (by kernel_rfl) _ rfl
                exact does_move rfl e72 ⟨Same.refl _, rfl⟩
              refine allp_skip rfl rfl (fun _ => rfl) ?_
              refine allp_skip rfl rfl (fun _ => rfl) ?_
              refine allp_mild 0 rfl rfl rfl (fun a x W hout hin hP => ?_) ?_
              · have e73 := hin.is 10 73 (by kernel_rfl) (by decide) (by kernel_rfl) (by kernel_rfl) _ rfl
                have e75 := hin.is 12 75 (by kernel_rfl) (by decide) (by kernel_rfl) (by kernel_rfl) _ rfl
                exact does_pick rfl e73 ⟨Same.refl _, rfl⟩
              refine allp_mild 0 rfl rfl rfl (fun a x W hout hin hP => ?_) ?_
              · have e70 := hin.is 7 70 (by kernel_rfl) (by decide) (by kernel_rfl) (by kernel_rfl) _ rfl
                have e76 := hin.is 13 76 (by kernel_rfl) (by decide) (by kernel_rfl) (by kernel_rfl) _ rfl
                exact does_pick rfl e70 ⟨Same.refl _, eval_of_get e76⟩
              refine allp_mild 0 rfl rfl rfl (fun a x W hout hin hP => ?_) ?_
              · have e77 := hin.is 14 77 (by kernel_rfl) (by decide) (by kernel_rfl) (by kernel_rfl) _ rfl
                exact does_move rfl e77 ⟨Same.refl _, rfl⟩
              refine allp_mild 0 rfl rfl rfl (fun a x W hout hin hP => ?_) ?_
              · have e11 : a.tmps[11]? = some (.bool true) := (hout 11 (by kernel_rfl)).trans rfl
                exact does_move rfl e11 ⟨Same.refl _, rfl⟩
              refine allp_mild 0 rfl rfl rfl (fun a x W hout hin hP => ?_) ?_
              · have e79 := hin.is 16 79 (by kernel_rfl) (by decide) (by kernel_rfl) (by kernel_rfl) _ rfl
                exact does_move rfl e79 ⟨Same.refl _, rfl⟩
              refine allp_mild 0 rfl rfl rfl (fun a x W hout hin hP => ?_) ?_
              · have e10 : a.tmps[10]? = some (.string (strB t)) := (hout 10 (by kernel_rfl)).trans rfl
                exact does_move rfl e10 ⟨Same.refl _, rfl⟩
              refine allp_mild 0 rfl rfl rfl (fun a x W hout hin hP => ?_) ?_
              · have e81 := hin.is 18 81 (by kernel_rfl) (by decide) (by kernel_rfl) (by kernel_rfl) _ rfl
                have h0 := H0.out
                have hn1 := HN1.out
                clear hP
                clear hin hout
                intro K0 Q hK
                go_simp
                exact hK _ _ ⟨Same.refl _, rfl⟩
              refine allp_mild 0 rfl rfl rfl (fun a x W hout hin hP => ?_) ?_
              · have e80 := hin.is 17 80 (by kernel_rfl) (by decide) (by kernel_rfl) (by kernel_rfl) _ rfl
                have e82 := hin.is 19 82 (by kernel_rfl) (by decide) (by kernel_rfl) (by kernel_rfl) _ rfl
                exact does_pick rfl e80 ⟨Same.refl _, eval_of_get e82⟩
              refine allp_mild 0 rfl rfl rfl (fun a x W hout hin hP => ?_) ?_
              · have e83 := hin.is 20 83 (by kernel_rfl) (by decide) (by kernel_rfl) (by kernel_rfl) _ rfl
                exact does_move rfl e83 ⟨Same.refl _, rfl⟩
              refine allp_mild 0 rfl rfl rfl (fun a x W hout hin hP => ?_) ?_
              · have e10 : a.tmps[10]? = some (.string (strB t)) := (hout 10 (by kernel_rfl)).trans rfl
                exact does_move rfl e10 ⟨Same.refl _, rfl⟩
              refine allp_mild 0 rfl rfl rfl (fun a x W hout hin hP => ?_) ?_
              · have e85 := hin.is 22 85 (by kernel_rfl) (by decide) (by kernel_rfl) (by kernel_rfl) _ rfl
                clear hP
                clear hin hout
                intro K0 Q hK
                go_simp
                exact hK _ _ ⟨Same.alloc _ _, strs1 W t HTM.out 9⟩
              refine allp_mild 0 rfl rfl rfl (fun a x W hout hin hP => ?_) ?_
              · obtain ⟨v86, e86, hv86⟩ := hin.get 23 86 (by kernel_rfl) (by decide) (by kernel_rfl) (.inr ⟨rfl, by kernel_rfl⟩)
                have C := (show goodNs [t] = true by unfold goodNs; simp [HG.out]) ▸ good_any [t] _ W hv86 (by unfold maxLen; simp)
                clear hP
                clear hin hout
                intro K0 Q hK
                go_simp
                refine C.mono ?_
                rintro e W' ⟨rfl, hb⟩
                exact hK _ _ ⟨hb, rfl⟩
              refine allp_mild 0 rfl rfl rfl (fun a x W hout hin hP => ?_) ?_
              · have e87 := hin.is 24 87 (by kernel_rfl) (by decide) (by kernel_rfl) (by kernel_rfl) _ rfl
                exact does_not rfl e87 ⟨Same.refl _, rfl⟩
              refine allp_mild 0 rfl rfl rfl (fun a x W hout hin hP => ?_) ?_
              · have e84 := hin.is 21 84 (by kernel_rfl) (by decide) (by kernel_rfl) (by kernel_rfl) _ rfl
                have e88 := hin.is 25 88 (by kernel_rfl) (by decide) (by kernel_rfl) (by kernel_rfl) _ rfl
                exact does_pick rfl e84 ⟨Same.refl _, eval_of_get e88⟩
              refine allp_mild 0 rfl rfl rfl (fun a x W hout hin hP => ?_) ?_
              · have e78 := hin.is 15 78 (by kernel_rfl) (by decide) (by kernel_rfl) (by kernel_rfl) _ rfl
                have e89 := hin.is 26 89 (by kernel_rfl) (by decide) (by kernel_rfl) (by kernel_rfl) _ rfl
                exact does_pick rfl e78 ⟨Same.refl _, eval_of_get e89⟩
              exact all_end (by decide)
            · intro x W hP hV
              have h : x 27 = .bool false := hV 27 (by decide) (.inl (by kernel_rfl))
              have HB := Lib.hid (St.below hP)
              clear hV hP
              simp only [putL, Act.put, List.setIfInBounds_toArray, List.set_cons_succ, List.set_cons_zero, h]
              refine wpAnyH_done (by kernel_rfl) ?_ _
              clear h
              have CM := Lib.hid (fun W' => mod_any (t.length : Int) 5 W' (by decide) (by decide))
              have HM5 := Lib.hid (mod5 HTL.out)
              obtain ⟨m, hm⟩ : ∃ m, t.length = m := ⟨_, rfl⟩
              rw [hm] at CM HM5
              have hsz : (strB t).size = m := by rw [strB_size, hm]
              clear hm
              rw [HM5.out] at CM
              go_wp2_with fail
              refine (CM.out _).mono ?_
              rintro e w9 ⟨rfl, rfl⟩
              go_wp2_with fail
              refine (nwakes_any _).mono ?_
              rintro e w10 ⟨rfl, hb10⟩
              go_wp2_with fail
              go_ret
              exact ⟨rfl, HB.out.trans (hb10.mono HB.out.size)⟩
end Go.Proofs.YtnepjcpbahhngaaDoor
