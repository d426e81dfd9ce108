/- Merged: KeepInts KeepVols TabWakes AppEI PoolOwn PoolFair TbTells. -/
import Derived.Deep.Cut
import Derived.ArgAppend
import Derived.Test.YtpmedgibnnonkaaDoorMGen0
import Derived.Test.YtpmedgibnnonkaaDoorMGen1
/- Are two lists of ints alike? -/
set_option maxRecDepth 4000
namespace Go.Proofs.YtpmedgibnnonkaaDoor
open Go Go.RowKit
set_option maxRecDepth 20000 in
set_option maxHeartbeats 800000 in
theorem keepints_any (la lb : List Int) (A1 A2 : Option Addr) (n1 n2 c1 c2 : Nat) (w : World) (hu : IntsAt w (.slice A1 n1 c1) la) (hv : IntsAt w (.slice A2 n2 c2) lb) (hl : n1 ≤ 1000000) :
    Calls Tryd.prog 26 #[.slice A1 n1 c1, .slice A2 n2 c2] w fun e w' => e = .returned (.bool (decide (la = lb))) ∧ Below w.heap.size w w' := by
  have hln1 := ints_len hu
  have hln2 := ints_len hv
  obtain ⟨G, hG⟩ : ∃ G, decide (la = lb) = G := ⟨_, rfl⟩
  by_cases hlen : n1 = n2
  case neg =>
    have hG0 : G = false := by rw [← hG, decide_eq_false (fun h => hlen (by rw [← hln1, ← hln2, h]))]
    rw [hG, hG0]
    have hq : (n1 : Int) ≠ (n2 : Int) := by omega
    clear hu hv hG hlen hln1 hln2 hG0
    go_enter Tryd.func26, Tryd.ntmps26
    go_wp2_with fail
    go_ret
    exact ⟨rfl, Below.refl _ _⟩
  subst hlen
  have HF := Lib.hid (fun k (hk : k < la.length) => ints_get hu hk)
  have HF2 := Lib.hid (fun k (hk : k < lb.length) => ints_get hv hk)
  have HALL : Hid ((∀ i < n1, la[i]? = lb[i]?) → G = true) := Lib.hid fun h => by
    rw [← hG]
    refine decide_eq_true (List.ext_getElem? fun i => ?_)
    by_cases hi : i < n1
    · exact h i hi
    · rw [List.getElem?_eq_none (by omega), List.getElem?_eq_none (by omega)]
  have HNO : Hid (∀ k : Nat, la[k]? ≠ lb[k]? → G = false) := Lib.hid fun k h => by
    rw [← hG]; exact decide_eq_false (fun e => h (by rw [e]))
  have HL1 := Lib.hid hln1
  have HL2 := Lib.hid hln2
  obtain ⟨n, hn⟩ : ∃ n, n1 = n := ⟨_, rfl⟩
  rw [hG]
  rw [hn] at HALL HL1 HL2 hl ⊢
  clear hu hv hG hln1 hln2 hn
  go_enter Tryd.func26, Tryd.ntmps26
  go_wp2_with fail
  go_loopw [5] (fun i wr => ∃ k : Nat, k ≤ n ∧ i = .int .i64 k ∧ Hid (∀ j < k, la[j]? = lb[j]?) ∧ Below w.heap.size w wr) (fun i _ => n - (intOf i).toNat)
  case atStart => exact ⟨0, by omega, rfl, Lib.hid fun j hj => by omega, Below.refl _ _⟩
  case round =>
    obtain ⟨k, hk, rfl, HE, hB⟩ := hrel
    have HB := Lib.hid hB
    clear hB
    by_cases hlt : k < n
    · obtain ⟨b1, o1, x, hx1, rfl, hb1, hc1, _⟩ := HF.out k (by rw [HL1.out]; exact hlt)
      obtain ⟨b2, o2, y, hx2, rfl, hb2, hc2, _⟩ := HF2.out k (by rw [HL2.out]; exact hlt)
      obtain ⟨O1, hO1⟩ : ∃ O, o1 + k = O := ⟨_, rfl⟩
      obtain ⟨O2, hO2⟩ : ∃ O, o2 + k = O := ⟨_, rfl⟩
      rw [hO1] at hc1
      rw [hO2] at hc2
      have HX1 := Lib.hid hx1
      have HX2 := Lib.hid hx2
      have HC1 := Lib.hid hc1
      have HC2 := Lib.hid hc2
      have HW1 := Lib.hid hb1
      have HW2 := Lib.hid hb2
      have HO1 := Lib.hid hO1
      have HO2 := Lib.hid hO2
      have hk0 : (0 : Int) ≤ (k : Int) := by omega
      have hk1 : (k : Int) < (n : Int) := by omega
      clear hx1 hx2 hc1 hc2 hb1 hb2 hO1 hO2
      go_upto_region 6 with fail
      have hF0 : Wl [(fun W => Below w.heap.size w W)] 0 (World.drew _) := HB.out.drew
      by_cases hxy : x = y
      · have HQ : Hid ((x : Int) = y) := Lib.hid hxy
        have HXY := Lib.hid hxy
        clear hxy
        refine wp_region_phs [is (.slice (some ⟨b1, o1, none⟩) n c1), is (.int .i64 (k : Int)), is (.pointer (some ⟨b1, O1, none⟩)), is (.int .i64 x), is (.slice (some ⟨b2, o2, none⟩) n c2), is (.int .i64 (k : Int)), is (.pointer (some ⟨b2, O2, none⟩)), is (.int .i64 y), is (.bool false)] [true, true, true, true, true, true, true, true, true] [(fun W => Below w.heap.size w W)] [false, false, false, false, false, false, false, false, false] [some 0, some 0, some 0, some 0, some 0, some 0, some 0, some 0, some 0] [some 17, some 18, some 19, some 20, some 21, some 22, some 23, some 24, some 25] 9 0 (fun _ => true) rfl rfl (by kernel_rfl) (by kernel_rfl) (by kernel_rfl) (by kernel_rfl) ?_ ?_ ?_ ?_ ?_ ?_
        · repeat first | exact wok_nil | refine wok_cons (by first | exact fun _ _ h k => h.trans (k.mono h.size)) ?_
        · repeat first | exact vok_nil | refine vok_rig (by first | exact fun _ _ _ h => h) ?_ | refine vok_soft (by first | exact fun _ _ _ h _ => h) ?_
        · exact hF0
        · repeat first | exact all_end (by decide) | refine all_cons (by first | exact rfl | exact ⟨rfl, fun _ _ h => Or.inl h⟩ | exact ⟨rfl, fun _ _ h => Or.inr ⟨h, rfl⟩⟩) ?_
        · refine allp_mild 0 rfl rfl rfl (fun a x_ W hout hin hP => ?_) ?_
          · have e0 : a.tmps[0]? = some (.slice (some ⟨b1, o1, none⟩) n c1) := (hout 0 (by kernel_rfl)).trans rfl
            exact does_move rfl e0 ⟨Same.refl _, rfl⟩
          refine allp_mild 0 rfl rfl rfl (fun a x_ W hout hin hP => ?_) ?_
          · have e5 : a.tmps[5]? = some (.int .i64 (k : Int)) := (hout 5 (by kernel_rfl)).trans rfl
            exact does_move rfl e5 ⟨Same.refl _, rfl⟩
          refine allp_mild 0 rfl rfl rfl (fun a x_ W hout hin hP => ?_) ?_
          · have e17 := hin.is 0 17 (by kernel_rfl) (by decide) (by kernel_rfl) (by kernel_rfl) _ rfl
            have e18 := hin.is 1 18 (by kernel_rfl) (by decide) (by kernel_rfl) (by kernel_rfl) _ rfl
            have hO := HO1.out
            clear hin hout
            intro K Q hK
            go_simp
            exact hK _ _ ⟨Same.refl _, rfl⟩
          refine allp_mild 0 rfl rfl rfl (fun a x_ W hout hin hP => ?_) ?_
          · have e19 := hin.is 2 19 (by kernel_rfl) (by decide) (by kernel_rfl) (by kernel_rfl) _ rfl
            have hc : W.cell? ⟨b1, O1, none⟩ = some (.int .i64 x) := (hP.cell (p := ⟨b1, O1, none⟩) HW1.out).trans HC1.out
            clear hP
            clear hin hout
            intro K Q hK
            go_simp
            exact hK _ _ ⟨Same.refl _, rfl⟩
          refine allp_mild 0 rfl rfl rfl (fun a x_ W hout hin hP => ?_) ?_
          · have e1 : a.tmps[1]? = some (.slice (some ⟨b2, o2, none⟩) n c2) := (hout 1 (by kernel_rfl)).trans rfl
            exact does_move rfl e1 ⟨Same.refl _, rfl⟩
          refine allp_mild 0 rfl rfl rfl (fun a x_ W hout hin hP => ?_) ?_
          · have e5 : a.tmps[5]? = some (.int .i64 (k : Int)) := (hout 5 (by kernel_rfl)).trans rfl
            exact does_move rfl e5 ⟨Same.refl _, rfl⟩
          refine allp_mild 0 rfl rfl rfl (fun a x_ W hout hin hP => ?_) ?_
          · have e21 := hin.is 4 21 (by kernel_rfl) (by decide) (by kernel_rfl) (by kernel_rfl) _ rfl
            have e22 := hin.is 5 22 (by kernel_rfl) (by decide) (by kernel_rfl) (by kernel_rfl) _ rfl
            have hO := HO2.out
            clear hin hout
            intro K Q hK
            go_simp
            exact hK _ _ ⟨Same.refl _, rfl⟩
          refine allp_mild 0 rfl rfl rfl (fun a x_ W hout hin hP => ?_) ?_
          · have e23 := hin.is 6 23 (by kernel_rfl) (by decide) (by kernel_rfl) (by kernel_rfl) _ rfl
            have hc : W.cell? ⟨b2, O2, none⟩ = some (.int .i64 y) := (hP.cell (p := ⟨b2, O2, none⟩) HW2.out).trans HC2.out
            clear hP
            clear hin hout
            intro K Q hK
            go_simp
            exact hK _ _ ⟨Same.refl _, rfl⟩
          refine allp_mild 0 rfl rfl rfl (fun a x_ W hout hin hP => ?_) ?_
          · have e20 := hin.is 3 20 (by kernel_rfl) (by decide) (by kernel_rfl) (by kernel_rfl) _ rfl
            have e24 := hin.is 7 24 (by kernel_rfl) (by decide) (by kernel_rfl) (by kernel_rfl) _ rfl
            have hq := HQ.out
            clear hP
            clear hin hout
            intro K Q hK
            go_simp
            exact hK _ _ ⟨Same.refl _, rfl⟩
          exact all_end (by decide)
        · intro x_ W hP hV
          have hB9 := hP
          have h8 : x_ 8 = .bool false := hV 8 (by decide) (.inl (by kernel_rfl))
          clear hP hV
          simp only [putL, Act.put, List.setIfInBounds_toArray, List.set_cons_succ, List.set_cons_zero, h8]
          refine wpAnyH_done (by kernel_rfl) ?_ _
          clear h8
          go_wp2_with fail
          refine ⟨⟨k + 1, by omega, by go_num, Lib.hid fun i hi => ?_, hB9⟩, by simp [intOf] <;> omega⟩
          rcases Nat.lt_or_eq_of_le (Nat.le_of_lt_succ hi) with h | rfl
          · exact HE.out i h
          · rw [HX1.out, HX2.out, HXY.out]
      · have HQ : Hid ((x != y) = true) := Lib.hid (bne_iff_ne.2 hxy)
        have HXY := Lib.hid hxy
        clear hxy
        refine wp_region_phs [is (.slice (some ⟨b1, o1, none⟩) n c1), is (.int .i64 (k : Int)), is (.pointer (some ⟨b1, O1, none⟩)), is (.int .i64 x), is (.slice (some ⟨b2, o2, none⟩) n c2), is (.int .i64 (k : Int)), is (.pointer (some ⟨b2, O2, none⟩)), is (.int .i64 y), is (.bool true)] [true, true, true, true, true, true, true, true, true] [(fun W => Below w.heap.size w W)] [false, false, false, false, false, false, false, false, false] [some 0, some 0, some 0, some 0, some 0, some 0, some 0, some 0, some 0] [some 17, some 18, some 19, some 20, some 21, some 22, some 23, some 24, some 25] 9 0 (fun _ => true) rfl rfl (by kernel_rfl) (by kernel_rfl) (by kernel_rfl) (by kernel_rfl) ?_ ?_ ?_ ?_ ?_ ?_
        · repeat first | exact wok_nil | refine wok_cons (by first | exact fun _ _ h k => h.trans (k.mono h.size)) ?_
        · repeat first | exact vok_nil | refine vok_rig (by first | exact fun _ _ _ h => h) ?_ | refine vok_soft (by first | exact fun _ _ _ h _ => h) ?_
        · exact hF0
        · repeat first | exact all_end (by decide) | refine all_cons (by first | exact rfl | exact ⟨rfl, fun _ _ h => Or.inl h⟩ | exact ⟨rfl, fun _ _ h => Or.inr ⟨h, rfl⟩⟩) ?_
        · refine allp_mild 0 rfl rfl rfl (fun a x_ W hout hin hP => ?_) ?_
          · have e0 : a.tmps[0]? = some (.slice (some ⟨b1, o1, none⟩) n c1) := (hout 0 (by kernel_rfl)).trans rfl
            exact does_move rfl e0 ⟨Same.refl _, rfl⟩
          refine allp_mild 0 rfl rfl rfl (fun a x_ W hout hin hP => ?_) ?_
          · have e5 : a.tmps[5]? = some (.int .i64 (k : Int)) := (hout 5 (by kernel_rfl)).trans rfl
            exact does_move rfl e5 ⟨Same.refl _, rfl⟩
          refine allp_mild 0 rfl rfl rfl (fun a x_ W hout hin hP => ?_) ?_
          · have e17 := hin.is 0 17 (by kernel_rfl) (by decide) (by kernel_rfl) (by kernel_rfl) _ rfl
            have e18 := hin.is 1 18 (by kernel_rfl) (by decide) (by kernel_rfl) (by kernel_rfl) _ rfl
            have hO := HO1.out
            clear hin hout
            intro K Q hK
            go_simp
            exact hK _ _ ⟨Same.refl _, rfl⟩
          refine allp_mild 0 rfl rfl rfl (fun a x_ W hout hin hP => ?_) ?_
          · have e19 := hin.is 2 19 (by kernel_rfl) (by decide) (by kernel_rfl) (by kernel_rfl) _ rfl
            have hc : W.cell? ⟨b1, O1, none⟩ = some (.int .i64 x) := (hP.cell (p := ⟨b1, O1, none⟩) HW1.out).trans HC1.out
            clear hP
            clear hin hout
            intro K Q hK
            go_simp
            exact hK _ _ ⟨Same.refl _, rfl⟩
          refine allp_mild 0 rfl rfl rfl (fun a x_ W hout hin hP => ?_) ?_
          · have e1 : a.tmps[1]? = some (.slice (some ⟨b2, o2, none⟩) n c2) := (hout 1 (by kernel_rfl)).trans rfl
            exact does_move rfl e1 ⟨Same.refl _, rfl⟩
          refine allp_mild 0 rfl rfl rfl (fun a x_ W hout hin hP => ?_) ?_
          · have e5 : a.tmps[5]? = some (.int .i64 (k : Int)) := (hout 5 (by kernel_rfl)).trans rfl
            exact does_move rfl e5 ⟨Same.refl _, rfl⟩
          refine allp_mild 0 rfl rfl rfl (fun a x_ W hout hin hP => ?_) ?_
          · have e21 := hin.is 4 21 (by kernel_rfl) (by decide) (by kernel_rfl) (by kernel_rfl) _ rfl
            have e22 := hin.is 5 22 (by kernel_rfl) (by decide) (by kernel_rfl) (by kernel_rfl) _ rfl
            have hO := HO2.out
            clear hin hout
            intro K Q hK
            go_simp
            exact hK _ _ ⟨Same.refl _, rfl⟩
          refine allp_mild 0 rfl rfl rfl (fun a x_ W hout hin hP => ?_) ?_
          · have e23 := hin.is 6 23 (by kernel_rfl) (by decide) (by kernel_rfl) (by kernel_rfl) _ rfl
            have hc : W.cell? ⟨b2, O2, none⟩ = some (.int .i64 y) := (hP.cell (p := ⟨b2, O2, none⟩) HW2.out).trans HC2.out
            clear hP
            clear hin hout
            intro K Q hK
            go_simp
            exact hK _ _ ⟨Same.refl _, rfl⟩
          refine allp_mild 0 rfl rfl rfl (fun a x_ W hout hin hP => ?_) ?_
          · have e20 := hin.is 3 20 (by kernel_rfl) (by decide) (by kernel_rfl) (by kernel_rfl) _ rfl
            have e24 := hin.is 7 24 (by kernel_rfl) (by decide) (by kernel_rfl) (by kernel_rfl) _ rfl
            have hq := HQ.out
            clear hP
            clear hin hout
            intro K Q hK
            go_simp
            exact hK _ _ ⟨Same.refl _, rfl⟩
          exact all_end (by decide)
        · intro x_ W hP hV
          have hB9 := hP
          have h8 : x_ 8 = .bool true := hV 8 (by decide) (.inl (by kernel_rfl))
          clear hP hV
          simp only [putL, Act.put, List.setIfInBounds_toArray, List.set_cons_succ, List.set_cons_zero, h8]
          refine wpAnyH_done (by kernel_rfl) ?_ _
          clear h8
          have hG := HNO.out k (by rw [HX1.out, HX2.out]; exact fun h => HXY.out (Option.some.inj h))
          go_wp2_with fail
          go_ret
          exact ⟨by first | rfl | (rw [hG]; rfl), hB9⟩
    · obtain rfl : k = n := by omega
      have hG := HALL.out HE.out
      go_wp2_with fail
      go_ret
      exact ⟨by first | rfl | (rw [hG]; rfl), HB.out⟩
end Go.Proofs.YtpmedgibnnonkaaDoor

/- Are two lists of volumes alike? -/
set_option maxRecDepth 4000
namespace Go.Proofs.YtpmedgibnnonkaaDoor
open Go Go.RowKit
theorem str_ext {s t : ByteArray} (h : s.toList = t.toList) : s = t := by
  rw [ByteArray.toList_eq, ByteArray.toList_eq] at h
  exact ByteArray.ext (Array.toList_inj.1 h)
set_option maxRecDepth 20000 in
set_option maxHeartbeats 1600000 in
theorem keepvols_any (la lb : List Vl) (A1 A2 : Option Addr) (n1 n2 c1 c2 : Nat) (w : World) (hu : VolsAt w (.slice A1 n1 c1) la) (hv : VolsAt w (.slice A2 n2 c2) lb) (hl : n1 ≤ 1000000) (hl2 : n2 ≤ 1000000) (hm : ∀ x ∈ la, x.2.length ≤ 1000000) :
    Calls Tryd.prog 16 #[.slice A1 n1 c1, .slice A2 n2 c2] w fun e w' => e = .returned (.bool (decide (la = lb))) ∧ Below w.heap.size w w' := by
  have hln1 := vols_len hu
  have hln2 := vols_len hv
  obtain ⟨G, hG⟩ : ∃ G, decide (la = lb) = G := ⟨_, rfl⟩
  by_cases hlen : n1 = n2
  case neg =>
    have hG0 : G = false := by rw [← hG, decide_eq_false (fun h => hlen (by rw [← hln1, ← hln2, h]))]
    rw [hG, hG0]
    have hq : (n1 : Int) ≠ (n2 : Int) := by omega
    clear hu hv hG hlen hln1 hln2 hG0
    go_enter Tryd.func16, Tryd.ntmps16
    go_wp2_with fail
    go_ret
    exact ⟨rfl, Below.refl _ _⟩
  subst hlen
  obtain ⟨n, hn⟩ : ∃ n, n1 = n := ⟨_, rfl⟩
  subst hn
  have HF := Lib.hid (fun k (hk : k < la.length) => vols_get hu hk)
  have HF2 := Lib.hid (fun k (hk : k < lb.length) => vols_get hv hk)
  have HALL : Hid ((∀ i < n1, la[i]? = lb[i]?) → G = true) := Lib.hid fun h => by
    rw [← hG]
    refine decide_eq_true (List.ext_getElem? fun i => ?_)
    by_cases hi : i < n1
    · exact h i hi
    · rw [List.getElem?_eq_none (by omega), List.getElem?_eq_none (by omega)]
  have HNO : Hid (∀ k : Nat, la[k]? ≠ lb[k]? → G = false) := Lib.hid fun k h => by
    rw [← hG]; exact decide_eq_false (fun e => h (by rw [e]))
  have HL1 := Lib.hid hln1
  have HL2 := Lib.hid hln2
  have HMM := Lib.hid hm
  obtain ⟨n, hn⟩ : ∃ n, n1 = n := ⟨_, rfl⟩
  rw [hG]
  rw [hn] at HALL HL1 HL2 hl ⊢
  clear hu hv hG hl2 hln1 hln2 hn hm
  go_enter Tryd.func16, Tryd.ntmps16
  go_wp2_with fail
  go_loopw [5] (fun i wr => ∃ k : Nat, k ≤ n ∧ i = .int .i64 k ∧ Hid (∀ j < k, la[j]? = lb[j]?) ∧ Below w.heap.size w wr) (fun i _ => n - (intOf i).toNat)
  case atStart => exact ⟨0, by omega, rfl, Lib.hid fun j hj => by omega, Below.refl _ _⟩
  case round =>
    obtain ⟨k, hk, rfl, HE, hB⟩ := hrel
    have HB := Lib.hid hB
    clear hB
    by_cases hlt : k < n
    · obtain ⟨b1, o1, s1, d1, B1, m1, q1, hx1, rfl, hb1, hr1, hs1, hm1, _⟩ := HF.out k (by rw [HL1.out]; exact hlt)
      obtain ⟨b2, o2, s2, d2, B2, m2, q2, hx2, rfl, hb2, hr2, hs2, hm2, _⟩ := HF2.out k (by rw [HL2.out]; exact hlt)
      obtain ⟨O1, hO1⟩ : ∃ O, o1 + k * 2 = O := ⟨_, rfl⟩
      obtain ⟨O2, hO2⟩ : ∃ O, o2 + k * 2 = O := ⟨_, rfl⟩
      rw [hO1] at hr1
      rw [hO2] at hr2
      have HM1 : Hid (m1 ≤ 1000000) := Lib.hid (by rw [← hm1]; exact HMM.out _ (List.mem_of_getElem? hx1))
      have HX1 := Lib.hid hx1
      have HX2 := Lib.hid hx2
      have HC10 : Hid (w.cell? ⟨b1, O1, none⟩ = some (.string s1)) := Lib.hid (hr1 0 _ rfl)
      have HC11 : Hid (w.cell? ⟨b1, O1 + 1, none⟩ = some (.slice B1 m1 q1)) := Lib.hid (hr1 1 _ rfl)
      have HC20 : Hid (w.cell? ⟨b2, O2, none⟩ = some (.string s2)) := Lib.hid (hr2 0 _ rfl)
      have HC21 : Hid (w.cell? ⟨b2, O2 + 1, none⟩ = some (.slice B2 m2 q2)) := Lib.hid (hr2 1 _ rfl)
      have HW1 := Lib.hid hb1
      have HW2 := Lib.hid hb2
      have HS1 := Lib.hid hs1
      have HS2 := Lib.hid hs2
      have HO1 := Lib.hid hO1
      have HO2 := Lib.hid hO2
      have hk0 : (0 : Int) ≤ (k : Int) := by omega
      have hk1 : (k : Int) < (n : Int) := by omega
      clear hx1 hx2 hr1 hr2 hb1 hb2 hs1 hs2 hm1 hm2 hO1 hO2
      go_upto_region 6 with fail
      have hF0 : Wl [fun W => Below w.heap.size w W] 0 (World.drew _) := HB.out.drew
      by_cases hi : s1 = s2
      · by_cases hd : d1 = d2
        · have HQI : Hid (s1 = s2) := Lib.hid hi
          have HQD : Hid (decide (d1 = d2) = true) := Lib.hid (decide_eq_true hd)
          have HXY : Hid (((s1, d1) : Vl) = (s2, d2)) := Lib.hid (by rw [hi, hd])
          clear hi hd
          refine wp_region_phs [is (.slice (some ⟨b1, o1, none⟩) n c1), is (.int .i64 (k : Int)), is (.pointer (some ⟨b1, O1, none⟩)), is (.pointer (some ⟨b1, O1, none⟩)), is (.string s1), is (.slice (some ⟨b2, o2, none⟩) n c2), is (.int .i64 (k : Int)), is (.pointer (some ⟨b2, O2, none⟩)), is (.pointer (some ⟨b2, O2, none⟩)), is (.string s2), is (.bool false), is (.bool false), is (.slice (some ⟨b1, o1, none⟩) n c1), is (.int .i64 (k : Int)), is (.pointer (some ⟨b1, O1, none⟩)), is (.pointer (some ⟨b1, O1 + 1, none⟩)), is (.slice B1 m1 q1), is (.slice (some ⟨b2, o2, none⟩) n c2), is (.int .i64 (k : Int)), is (.pointer (some ⟨b2, O2, none⟩)), is (.pointer (some ⟨b2, O2 + 1, none⟩)), is (.slice B2 m2 q2), is (.bool true), is (.bool false), is (.bool false)] [true, true, true, true, true, true, true, true, true, true, true, true, true, true, true, true, true, true, true, true, true, true, true, true, true] [(fun W => Below w.heap.size w W)] [false, false, false, false, false, false, false, false, false, false, false, false, false, false, false, false, false, false, false, false, false, false, false, false, false] [some 0, some 0, some 0, some 0, some 0, some 0, some 0, some 0, some 0, some 0, some 0, some 0, some 0, some 0, some 0, some 0, some 0, some 0, some 0, some 0, some 0, some 0, some 0, some 0, some 0] [some 17, some 18, some 19, some 20, some 21, some 22, some 23, some 24, some 25, some 26, some 27, some 28, some 29, some 30, some 31, some 32, some 33, some 34, some 35, some 36, some 37, some 38, some 39, some 40, some 41] 25 0 (fun _ => true) rfl rfl (by kernel_rfl) (by kernel_rfl) (by kernel_rfl) (by kernel_rfl) ?_ ?_ ?_ ?_ ?_ ?_
          · repeat first | exact wok_nil | refine wok_cons (by first | exact fun _ _ h k => h.trans (k.mono h.size)) ?_
          · repeat first | exact vok_nil | refine vok_rig (by first | exact fun _ _ _ h => h) ?_ | refine vok_soft (by first | exact fun _ _ _ h _ => h) ?_
          · exact hF0
          · repeat first | exact all_end (by decide) | refine all_cons (by first | exact rfl | exact ⟨rfl, fun _ _ h => Or.inl h⟩ | exact ⟨rfl, fun _ _ h => Or.inr ⟨h, rfl⟩⟩) ?_
          · refine allp_mild 0 rfl rfl rfl (fun a x_ W hout hin hP => ?_) ?_
            · have e0 : a.tmps[0]? = some (.slice (some ⟨b1, o1, none⟩) n c1) := (hout 0 (by kernel_rfl)).trans rfl
              exact does_move rfl e0 ⟨Same.refl _, rfl⟩
            refine allp_mild 0 rfl rfl rfl (fun a x_ W hout hin hP => ?_) ?_
            · have e5 : a.tmps[5]? = some (.int .i64 (k : Int)) := (hout 5 (by kernel_rfl)).trans rfl
              exact does_move rfl e5 ⟨Same.refl _, rfl⟩
            refine allp_mild 0 rfl rfl rfl (fun a x_ W hout hin hP => ?_) ?_
            · have e17 := hin.is 0 17 (by kernel_rfl) (by decide) (by kernel_rfl) (by kernel_rfl) _ rfl
              have e18 := hin.is 1 18 (by kernel_rfl) (by decide) (by kernel_rfl) (by kernel_rfl) _ rfl
              have hO := HO1.out
              clear hin hout
              intro K Q hK
              go_simp
              exact hK _ _ ⟨Same.refl _, rfl⟩
            refine allp_mild 0 rfl rfl rfl (fun a x_ W hout hin hP => ?_) ?_
            · have e19 := hin.is 2 19 (by kernel_rfl) (by decide) (by kernel_rfl) (by kernel_rfl) _ rfl
              clear hin hout
              intro K Q hK
              go_simp
              exact hK _ _ ⟨Same.refl _, rfl⟩
            refine allp_mild 0 rfl rfl rfl (fun a x_ W hout hin hP => ?_) ?_
            · have e20 := hin.is 3 20 (by kernel_rfl) (by decide) (by kernel_rfl) (by kernel_rfl) _ rfl
              have hc : W.cell? ⟨b1, O1, none⟩ = some (.string s1) := (hP.cell (p := ⟨b1, O1, none⟩) HW1.out).trans (HC10.out)
              clear hP
              clear hin hout
              intro K Q hK
              go_simp
              exact hK _ _ ⟨Same.refl _, rfl⟩
            refine allp_mild 0 rfl rfl rfl (fun a x_ W hout hin hP => ?_) ?_
            · have e1 : a.tmps[1]? = some (.slice (some ⟨b2, o2, none⟩) n c2) := (hout 1 (by kernel_rfl)).trans rfl
              exact does_move rfl e1 ⟨Same.refl _, rfl⟩
            refine allp_mild 0 rfl rfl rfl (fun a x_ W hout hin hP => ?_) ?_
            · have e5 : a.tmps[5]? = some (.int .i64 (k : Int)) := (hout 5 (by kernel_rfl)).trans rfl
              exact does_move rfl e5 ⟨Same.refl _, rfl⟩
            refine allp_mild 0 rfl rfl rfl (fun a x_ W hout hin hP => ?_) ?_
            · have e22 := hin.is 5 22 (by kernel_rfl) (by decide) (by kernel_rfl) (by kernel_rfl) _ rfl
              have e23 := hin.is 6 23 (by kernel_rfl) (by decide) (by kernel_rfl) (by kernel_rfl) _ rfl
              have hO := HO2.out
              clear hin hout
              intro K Q hK
              go_simp
              exact hK _ _ ⟨Same.refl _, rfl⟩
            refine allp_mild 0 rfl rfl rfl (fun a x_ W hout hin hP => ?_) ?_
            · have e24 := hin.is 7 24 (by kernel_rfl) (by decide) (by kernel_rfl) (by kernel_rfl) _ rfl
              clear hin hout
              intro K Q hK
              go_simp
              exact hK _ _ ⟨Same.refl _, rfl⟩
            refine allp_mild 0 rfl rfl rfl (fun a x_ W hout hin hP => ?_) ?_
            · have e25 := hin.is 8 25 (by kernel_rfl) (by decide) (by kernel_rfl) (by kernel_rfl) _ rfl
              have hc : W.cell? ⟨b2, O2, none⟩ = some (.string s2) := (hP.cell (p := ⟨b2, O2, none⟩) HW2.out).trans (HC20.out)
              clear hP
              clear hin hout
              intro K Q hK
              go_simp
              exact hK _ _ ⟨Same.refl _, rfl⟩
            refine allp_mild 0 rfl rfl rfl (fun a x_ W hout hin hP => ?_) ?_
            · have e21 := hin.is 4 21 (by kernel_rfl) (by decide) (by kernel_rfl) (by kernel_rfl) _ rfl
              have e26 := hin.is 9 26 (by kernel_rfl) (by decide) (by kernel_rfl) (by kernel_rfl) _ rfl
              have hq := HQI.out
              clear hP
              clear hin hout
              intro K Q hK
              go_simp
              exact hK _ _ ⟨Same.refl _, rfl⟩
            refine allp_mild 0 rfl rfl rfl (fun a x_ W hout hin hP => ?_) ?_
            · have e27 := hin.is 10 27 (by kernel_rfl) (by decide) (by kernel_rfl) (by kernel_rfl) _ rfl
              exact does_move rfl e27 ⟨Same.refl _, rfl⟩
            refine allp_mild 0 rfl rfl rfl (fun a x_ W hout hin hP => ?_) ?_
            · have e0 : a.tmps[0]? = some (.slice (some ⟨b1, o1, none⟩) n c1) := (hout 0 (by kernel_rfl)).trans rfl
              exact does_move rfl e0 ⟨Same.refl _, rfl⟩
            refine allp_mild 0 rfl rfl rfl (fun a x_ W hout hin hP => ?_) ?_
            · have e5 : a.tmps[5]? = some (.int .i64 (k : Int)) := (hout 5 (by kernel_rfl)).trans rfl
              exact does_move rfl e5 ⟨Same.refl _, rfl⟩
            refine allp_mild 0 rfl rfl rfl (fun a x_ W hout hin hP => ?_) ?_
            · have e29 := hin.is 12 29 (by kernel_rfl) (by decide) (by kernel_rfl) (by kernel_rfl) _ rfl
              have e30 := hin.is 13 30 (by kernel_rfl) (by decide) (by kernel_rfl) (by kernel_rfl) _ rfl
              have hO := HO1.out
              clear hin hout
              intro K Q hK
              go_simp
              exact hK _ _ ⟨Same.refl _, rfl⟩
            refine allp_mild 0 rfl rfl rfl (fun a x_ W hout hin hP => ?_) ?_
            · have e31 := hin.is 14 31 (by kernel_rfl) (by decide) (by kernel_rfl) (by kernel_rfl) _ rfl
              clear hin hout
              intro K Q hK
              go_simp
              exact hK _ _ ⟨Same.refl _, rfl⟩
            refine allp_mild 0 rfl rfl rfl (fun a x_ W hout hin hP => ?_) ?_
            · have e32 := hin.is 15 32 (by kernel_rfl) (by decide) (by kernel_rfl) (by kernel_rfl) _ rfl
              have hc : W.cell? ⟨b1, O1 + 1, none⟩ = some (.slice B1 m1 q1) := (hP.cell (p := ⟨b1, O1 + 1, none⟩) HW1.out).trans (HC11.out)
              clear hP
              clear hin hout
              intro K Q hK
              go_simp
              exact hK _ _ ⟨Same.refl _, rfl⟩
            refine allp_mild 0 rfl rfl rfl (fun a x_ W hout hin hP => ?_) ?_
            · have e1 : a.tmps[1]? = some (.slice (some ⟨b2, o2, none⟩) n c2) := (hout 1 (by kernel_rfl)).trans rfl
              exact does_move rfl e1 ⟨Same.refl _, rfl⟩
            refine allp_mild 0 rfl rfl rfl (fun a x_ W hout hin hP => ?_) ?_
            · have e5 : a.tmps[5]? = some (.int .i64 (k : Int)) := (hout 5 (by kernel_rfl)).trans rfl
              exact does_move rfl e5 ⟨Same.refl _, rfl⟩
            refine allp_mild 0 rfl rfl rfl (fun a x_ W hout hin hP => ?_) ?_
            · have e34 := hin.is 17 34 (by kernel_rfl) (by decide) (by kernel_rfl) (by kernel_rfl) _ rfl
              have e35 := hin.is 18 35 (by kernel_rfl) (by decide) (by kernel_rfl) (by kernel_rfl) _ rfl
              have hO := HO2.out
              clear hin hout
              intro K Q hK
              go_simp
              exact hK _ _ ⟨Same.refl _, rfl⟩
            refine allp_mild 0 rfl rfl rfl (fun a x_ W hout hin hP => ?_) ?_
            · have e36 := hin.is 19 36 (by kernel_rfl) (by decide) (by kernel_rfl) (by kernel_rfl) _ rfl
              clear hin hout
              intro K Q hK
              go_simp
              exact hK _ _ ⟨Same.refl _, rfl⟩
            refine allp_mild 0 rfl rfl rfl (fun a x_ W hout hin hP => ?_) ?_
            · have e37 := hin.is 20 37 (by kernel_rfl) (by decide) (by kernel_rfl) (by kernel_rfl) _ rfl
              have hc : W.cell? ⟨b2, O2 + 1, none⟩ = some (.slice B2 m2 q2) := (hP.cell (p := ⟨b2, O2 + 1, none⟩) HW2.out).trans (HC21.out)
              clear hP
              clear hin hout
              intro K Q hK
              go_simp
              exact hK _ _ ⟨Same.refl _, rfl⟩
            refine allp_mild 0 rfl rfl rfl (fun a x_ W hout hin hP => ?_) ?_
            · have e33 := hin.is 16 33 (by kernel_rfl) (by decide) (by kernel_rfl) (by kernel_rfl) _ rfl
              have e38 := hin.is 21 38 (by kernel_rfl) (by decide) (by kernel_rfl) (by kernel_rfl) _ rfl
              have C := keepints_any _ _ _ _ _ _ _ _ W (HS1.out.below hP (Nat.le_refl _)) (HS2.out.below hP (Nat.le_refl _)) HM1.out
              rw [HQD.out] at C
              clear hP
              clear hin hout
              intro K Q hK
              go_simp
              refine C.mono ?_
              rintro e W' ⟨rfl, hb⟩
              exact hK _ _ ⟨hb, rfl⟩
            refine allp_mild 0 rfl rfl rfl (fun a x_ W hout hin hP => ?_) ?_
            · have e39 := hin.is 22 39 (by kernel_rfl) (by decide) (by kernel_rfl) (by kernel_rfl) _ rfl
              exact does_not rfl e39 ⟨Same.refl _, rfl⟩
            refine allp_mild 0 rfl rfl rfl (fun a x_ W hout hin hP => ?_) ?_
            · have e28 := hin.is 11 28 (by kernel_rfl) (by decide) (by kernel_rfl) (by kernel_rfl) _ rfl
              have e40 := hin.is 23 40 (by kernel_rfl) (by decide) (by kernel_rfl) (by kernel_rfl) _ rfl
              exact does_pick rfl e28 ⟨Same.refl _, eval_of_get e40⟩
            exact all_end (by decide)
          · intro x_ W hP hV
            have hB9 := hP
            have h24 : x_ 24 = .bool false := hV 24 (by decide) (.inl (by kernel_rfl))
            clear hP hV
            simp only [putL, Act.put, List.setIfInBounds_toArray, List.set_cons_succ, List.set_cons_zero, h24]
            refine wpAnyH_done (by kernel_rfl) ?_ _
            clear h24
            go_wp2_with fail
            refine ⟨⟨k + 1, by omega, by go_num, Lib.hid fun i hi => ?_, hB9⟩, by simp [intOf] <;> omega⟩
            rcases Nat.lt_or_eq_of_le (Nat.le_of_lt_succ hi) with h | rfl
            · exact HE.out i h
            · rw [HX1.out, HX2.out, HXY.out]

        · have HQI : Hid (s1 = s2) := Lib.hid hi
          have HQD : Hid (decide (d1 = d2) = false) := Lib.hid (decide_eq_false hd)
          have HXY : Hid (¬ ((s1, d1) : Vl) = (s2, d2)) := Lib.hid (fun h => hd (by injection h))
          clear hi hd
          refine wp_region_phs [is (.slice (some ⟨b1, o1, none⟩) n c1), is (.int .i64 (k : Int)), is (.pointer (some ⟨b1, O1, none⟩)), is (.pointer (some ⟨b1, O1, none⟩)), is (.string s1), is (.slice (some ⟨b2, o2, none⟩) n c2), is (.int .i64 (k : Int)), is (.pointer (some ⟨b2, O2, none⟩)), is (.pointer (some ⟨b2, O2, none⟩)), is (.string s2), is (.bool false), is (.bool false), is (.slice (some ⟨b1, o1, none⟩) n c1), is (.int .i64 (k : Int)), is (.pointer (some ⟨b1, O1, none⟩)), is (.pointer (some ⟨b1, O1 + 1, none⟩)), is (.slice B1 m1 q1), is (.slice (some ⟨b2, o2, none⟩) n c2), is (.int .i64 (k : Int)), is (.pointer (some ⟨b2, O2, none⟩)), is (.pointer (some ⟨b2, O2 + 1, none⟩)), is (.slice B2 m2 q2), is (.bool false), is (.bool true), is (.bool true)] [true, true, true, true, true, true, true, true, true, true, true, true, true, true, true, true, true, true, true, true, true, true, true, true, true] [(fun W => Below w.heap.size w W)] [false, false, false, false, false, false, false, false, false, false, false, false, false, false, false, false, false, false, false, false, false, false, false, false, false] [some 0, some 0, some 0, some 0, some 0, some 0, some 0, some 0, some 0, some 0, some 0, some 0, some 0, some 0, some 0, some 0, some 0, some 0, some 0, some 0, some 0, some 0, some 0, some 0, some 0] [some 17, some 18, some 19, some 20, some 21, some 22, some 23, some 24, some 25, some 26, some 27, some 28, some 29, some 30, some 31, some 32, some 33, some 34, some 35, some 36, some 37, some 38, some 39, some 40, some 41] 25 0 (fun _ => true) rfl rfl (by kernel_rfl) (by kernel_rfl) (by kernel_rfl) (by kernel_rfl) ?_ ?_ ?_ ?_ ?_ ?_
          · repeat first | exact wok_nil | refine wok_cons (by first | exact fun _ _ h k => h.trans (k.mono h.size)) ?_
          · repeat first | exact vok_nil | refine vok_rig (by first | exact fun _ _ _ h => h) ?_ | refine vok_soft (by first | exact fun _ _ _ h _ => h) ?_
          · exact hF0
          · repeat first | exact all_end (by decide) | refine all_cons (by first | exact rfl | exact ⟨rfl, fun _ _ h => Or.inl h⟩ | exact ⟨rfl, fun _ _ h => Or.inr ⟨h, rfl⟩⟩) ?_
          · refine allp_mild 0 rfl rfl rfl (fun a x_ W hout hin hP => ?_) ?_
            · have e0 : a.tmps[0]? = some (.slice (some ⟨b1, o1, none⟩) n c1) := (hout 0 (by kernel_rfl)).trans rfl
              exact does_move rfl e0 ⟨Same.refl _, rfl⟩
            refine allp_mild 0 rfl rfl rfl (fun a x_ W hout hin hP => ?_) ?_
            · have e5 : a.tmps[5]? = some (.int .i64 (k : Int)) := (hout 5 (by kernel_rfl)).trans rfl
              exact does_move rfl e5 ⟨Same.refl _, rfl⟩
            refine allp_mild 0 rfl rfl rfl (fun a x_ W hout hin hP => ?_) ?_
            · have e17 := hin.is 0 17 (by kernel_rfl) (by decide) (by kernel_rfl) (by kernel_rfl) _ rfl
              have e18 := hin.is 1 18 (by kernel_rfl) (by decide) (by kernel_rfl) (by kernel_rfl) _ rfl
              have hO := HO1.out
              clear hin hout
              intro K Q hK
              go_simp
              exact hK _ _ ⟨Same.refl _, rfl⟩
            refine allp_mild 0 rfl rfl rfl (fun a x_ W hout hin hP => ?_) ?_
            · have e19 := hin.is 2 19 (by kernel_rfl) (by decide) (by kernel_rfl) (by kernel_rfl) _ rfl
              clear hin hout
              intro K Q hK
              go_simp
              exact hK _ _ ⟨Same.refl _, rfl⟩
            refine allp_mild 0 rfl rfl rfl (fun a x_ W hout hin hP => ?_) ?_
            · have e20 := hin.is 3 20 (by kernel_rfl) (by decide) (by kernel_rfl) (by kernel_rfl) _ rfl
              have hc : W.cell? ⟨b1, O1, none⟩ = some (.string s1) := (hP.cell (p := ⟨b1, O1, none⟩) HW1.out).trans (HC10.out)
              clear hP
              clear hin hout
              intro K Q hK
              go_simp
              exact hK _ _ ⟨Same.refl _, rfl⟩
            refine allp_mild 0 rfl rfl rfl (fun a x_ W hout hin hP => ?_) ?_
            · have e1 : a.tmps[1]? = some (.slice (some ⟨b2, o2, none⟩) n c2) := (hout 1 (by kernel_rfl)).trans rfl
              exact does_move rfl e1 ⟨Same.refl _, rfl⟩
            refine allp_mild 0 rfl rfl rfl (fun a x_ W hout hin hP => ?_) ?_
            · have e5 : a.tmps[5]? = some (.int .i64 (k : Int)) := (hout 5 (by kernel_rfl)).trans rfl
              exact does_move rfl e5 ⟨Same.refl _, rfl⟩
            refine allp_mild 0 rfl rfl rfl (fun a x_ W hout hin hP => ?_) ?_
            · have e22 := hin.is 5 22 (by kernel_rfl) (by decide) (by kernel_rfl) (by kernel_rfl) _ rfl
              have e23 := hin.is 6 23 (by kernel_rfl) (by decide) (by kernel_rfl) (by kernel_rfl) _ rfl
              have hO := HO2.out
              clear hin hout
              intro K Q hK
              go_simp
              exact hK _ _ ⟨Same.refl _, rfl⟩
            refine allp_mild 0 rfl rfl rfl (fun a x_ W hout hin hP => ?_) ?_
            · have e24 := hin.is 7 24 (by kernel_rfl) (by decide) (by kernel_rfl) (by kernel_rfl) _ rfl
              clear hin hout
              intro K Q hK
              go_simp
              exact hK _ _ ⟨Same.refl _, rfl⟩
            refine allp_mild 0 rfl rfl rfl (fun a x_ W hout hin hP => ?_) ?_
            · have e25 := hin.is 8 25 (by kernel_rfl) (by decide) (by kernel_rfl) (by kernel_rfl) _ rfl
              have hc : W.cell? ⟨b2, O2, none⟩ = some (.string s2) := (hP.cell (p := ⟨b2, O2, none⟩) HW2.out).trans (HC20.out)
              clear hP
              clear hin hout
              intro K Q hK
              go_simp
              exact hK _ _ ⟨Same.refl _, rfl⟩
            refine allp_mild 0 rfl rfl rfl (fun a x_ W hout hin hP => ?_) ?_
            · have e21 := hin.is 4 21 (by kernel_rfl) (by decide) (by kernel_rfl) (by kernel_rfl) _ rfl
              have e26 := hin.is 9 26 (by kernel_rfl) (by decide) (by kernel_rfl) (by kernel_rfl) _ rfl
              have hq := HQI.out
              clear hP
              clear hin hout
              intro K Q hK
              go_simp
              exact hK _ _ ⟨Same.refl _, rfl⟩
            refine allp_mild 0 rfl rfl rfl (fun a x_ W hout hin hP => ?_) ?_
            · have e27 := hin.is 10 27 (by kernel_rfl) (by decide) (by kernel_rfl) (by kernel_rfl) _ rfl
              exact does_move rfl e27 ⟨Same.refl _, rfl⟩
            refine allp_mild 0 rfl rfl rfl (fun a x_ W hout hin hP => ?_) ?_
            · have e0 : a.tmps[0]? = some (.slice (some ⟨b1, o1, none⟩) n c1) := (hout 0 (by kernel_rfl)).trans rfl
              exact does_move rfl e0 ⟨Same.refl _, rfl⟩
            refine allp_mild 0 rfl rfl rfl (fun a x_ W hout hin hP => ?_) ?_
            · have e5 : a.tmps[5]? = some (.int .i64 (k : Int)) := (hout 5 (by kernel_rfl)).trans rfl
              exact does_move rfl e5 ⟨Same.refl _, rfl⟩
            refine allp_mild 0 rfl rfl rfl (fun a x_ W hout hin hP => ?_) ?_
            · have e29 := hin.is 12 29 (by kernel_rfl) (by decide) (by kernel_rfl) (by kernel_rfl) _ rfl
              have e30 := hin.is 13 30 (by kernel_rfl) (by decide) (by kernel_rfl) (by kernel_rfl) _ rfl
              have hO := HO1.out
              clear hin hout
              intro K Q hK
              go_simp
              exact hK _ _ ⟨Same.refl _, rfl⟩
            refine allp_mild 0 rfl rfl rfl (fun a x_ W hout hin hP => ?_) ?_
            · have e31 := hin.is 14 31 (by kernel_rfl) (by decide) (by kernel_rfl) (by kernel_rfl) _ rfl
              clear hin hout
              intro K Q hK
              go_simp
              exact hK _ _ ⟨Same.refl _, rfl⟩
            refine allp_mild 0 rfl rfl rfl (fun a x_ W hout hin hP => ?_) ?_
            · have e32 := hin.is 15 32 (by kernel_rfl) (by decide) (by kernel_rfl) (by kernel_rfl) _ rfl
              have hc : W.cell? ⟨b1, O1 + 1, none⟩ = some (.slice B1 m1 q1) := (hP.cell (p := ⟨b1, O1 + 1, none⟩) HW1.out).trans (HC11.out)
              clear hP
              clear hin hout
              intro K Q hK
              go_simp
              exact hK _ _ ⟨Same.refl _, rfl⟩
            refine allp_mild 0 rfl rfl rfl (fun a x_ W hout hin hP => ?_) ?_
            · have e1 : a.tmps[1]? = some (.slice (some ⟨b2, o2, none⟩) n c2) := (hout 1 (by kernel_rfl)).trans rfl
              exact does_move rfl e1 ⟨Same.refl _, rfl⟩
            refine allp_mild 0 rfl rfl rfl (fun a x_ W hout hin hP => ?_) ?_
            · have e5 : a.tmps[5]? = some (.int .i64 (k : Int)) := (hout 5 (by kernel_rfl)).trans rfl
              exact does_move rfl e5 ⟨Same.refl _, rfl⟩
            refine allp_mild 0 rfl rfl rfl (fun a x_ W hout hin hP => ?_) ?_
            · have e34 := hin.is 17 34 (by kernel_rfl) (by decide) (by kernel_rfl) (by kernel_rfl) _ rfl
              have e35 := hin.is 18 35 (by kernel_rfl) (by decide) (by kernel_rfl) (by kernel_rfl) _ rfl
              have hO := HO2.out
              clear hin hout
              intro K Q hK
              go_simp
              exact hK _ _ ⟨Same.refl _, rfl⟩
            refine allp_mild 0 rfl rfl rfl (fun a x_ W hout hin hP => ?_) ?_
            · have e36 := hin.is 19 36 (by kernel_rfl) (by decide) (by kernel_rfl) (by kernel_rfl) _ rfl
              clear hin hout
              intro K Q hK
              go_simp
              exact hK _ _ ⟨Same.refl _, rfl⟩
            refine allp_mild 0 rfl rfl rfl (fun a x_ W hout hin hP => ?_) ?_
            · have e37 := hin.is 20 37 (by kernel_rfl) (by decide) (by kernel_rfl) (by kernel_rfl) _ rfl
              have hc : W.cell? ⟨b2, O2 + 1, none⟩ = some (.slice B2 m2 q2) := (hP.cell (p := ⟨b2, O2 + 1, none⟩) HW2.out).trans (HC21.out)
              clear hP
              clear hin hout
              intro K Q hK
              go_simp
              exact hK _ _ ⟨Same.refl _, rfl⟩
            refine allp_mild 0 rfl rfl rfl (fun a x_ W hout hin hP => ?_) ?_
            · have e33 := hin.is 16 33 (by kernel_rfl) (by decide) (by kernel_rfl) (by kernel_rfl) _ rfl
              have e38 := hin.is 21 38 (by kernel_rfl) (by decide) (by kernel_rfl) (by kernel_rfl) _ rfl
              have C := keepints_any _ _ _ _ _ _ _ _ W (HS1.out.below hP (Nat.le_refl _)) (HS2.out.below hP (Nat.le_refl _)) HM1.out
              rw [HQD.out] at C
              clear hP
              clear hin hout
              intro K Q hK
              go_simp
              refine C.mono ?_
              rintro e W' ⟨rfl, hb⟩
              exact hK _ _ ⟨hb, rfl⟩
            refine allp_mild 0 rfl rfl rfl (fun a x_ W hout hin hP => ?_) ?_
            · have e39 := hin.is 22 39 (by kernel_rfl) (by decide) (by kernel_rfl) (by kernel_rfl) _ rfl
              exact does_not rfl e39 ⟨Same.refl _, rfl⟩
            refine allp_mild 0 rfl rfl rfl (fun a x_ W hout hin hP => ?_) ?_
            · have e28 := hin.is 11 28 (by kernel_rfl) (by decide) (by kernel_rfl) (by kernel_rfl) _ rfl
              have e40 := hin.is 23 40 (by kernel_rfl) (by decide) (by kernel_rfl) (by kernel_rfl) _ rfl
              exact does_pick rfl e28 ⟨Same.refl _, eval_of_get e40⟩
            exact all_end (by decide)
          · intro x_ W hP hV
            have hB9 := hP
            have h24 : x_ 24 = .bool true := hV 24 (by decide) (.inl (by kernel_rfl))
            clear hP hV
            simp only [putL, Act.put, List.setIfInBounds_toArray, List.set_cons_succ, List.set_cons_zero, h24]
            refine wpAnyH_done (by kernel_rfl) ?_ _
            clear h24
            have hG := HNO.out k (by rw [HX1.out, HX2.out]; exact fun h => HXY.out (Option.some.inj h))
            go_wp2_with fail
            go_ret
            exact ⟨by first | rfl | (rw [hG]; rfl), hB9⟩

      · have HQI : Hid ((s1.toList == s2.toList) = false) := Lib.hid (beq_eq_false_iff_ne.2 fun h => hi (str_ext h))
        have HXY : Hid (¬ ((s1, d1) : Vl) = (s2, d2)) := Lib.hid (fun h => hi (by injection h))
        clear hi
        refine wp_region_phs [is (.slice (some ⟨b1, o1, none⟩) n c1), is (.int .i64 (k : Int)), is (.pointer (some ⟨b1, O1, none⟩)), is (.pointer (some ⟨b1, O1, none⟩)), is (.string s1), is (.slice (some ⟨b2, o2, none⟩) n c2), is (.int .i64 (k : Int)), is (.pointer (some ⟨b2, O2, none⟩)), is (.pointer (some ⟨b2, O2, none⟩)), is (.string s2), is (.bool true), is (.bool true), is undef, is undef, is undef, is undef, is undef, is undef, is undef, is undef, is undef, is undef, is undef, is undef, is (.bool true)] [true, true, true, true, true, true, true, true, true, true, true, true, true, true, true, true, true, true, true, true, true, true, true, true, true] [(fun W => Below w.heap.size w W)] [false, false, false, false, false, false, false, false, false, false, false, false, false, false, false, false, false, false, false, false, false, false, false, false, false] [some 0, some 0, some 0, some 0, some 0, some 0, some 0, some 0, some 0, some 0, some 0, some 0, some 0, some 0, some 0, some 0, some 0, some 0, some 0, some 0, some 0, some 0, some 0, some 0, some 0] [some 17, some 18, some 19, some 20, some 21, some 22, some 23, some 24, some 25, some 26, some 27, some 28, some 29, some 30, some 31, some 32, some 33, some 34, some 35, some 36, some 37, some 38, some 39, some 40, some 41] 25 0 (fun i => !([12, 13, 14, 15, 16, 17, 18, 19, 20, 21, 22, 23] : List Nat).contains i) rfl rfl (by kernel_rfl) (by kernel_rfl) (by kernel_rfl) (by kernel_rfl) ?_ ?_ ?_ ?_ ?_ ?_
        · repeat first | exact wok_nil | refine wok_cons (by first | exact fun _ _ h k => h.trans (k.mono h.size)) ?_
        · repeat first | exact vok_nil | refine vok_rig (by first | exact fun _ _ _ h => h) ?_ | refine vok_soft (by first | exact fun _ _ _ h _ => h) ?_
        · exact hF0
        · repeat first | exact all_end (by decide) | refine all_cons (by first | exact rfl | exact ⟨rfl, fun _ _ h => Or.inl h⟩ | exact ⟨rfl, fun _ _ h => Or.inr ⟨h, rfl⟩⟩) ?_
        · refine allp_mild 0 rfl rfl rfl (fun a x_ W hout hin hP => ?_) ?_
          · have e0 : a.tmps[0]? = some (.slice (some ⟨b1, o1, none⟩) n c1) := (hout 0 (by kernel_rfl)).trans rfl
            exact does_move rfl e0 ⟨Same.refl _, rfl⟩
          refine allp_mild 0 rfl rfl rfl (fun a x_ W hout hin hP => ?_) ?_
          · have e5 : a.tmps[5]? = some (.int .i64 (k : Int)) := (hout 5 (by kernel_rfl)).trans rfl
            exact does_move rfl e5 ⟨Same.refl _, rfl⟩
          refine allp_mild 0 rfl rfl rfl (fun a x_ W hout hin hP => ?_) ?_
          · have e17 := hin.is 0 17 (by kernel_rfl) (by decide) (by kernel_rfl) (by kernel_rfl) _ rfl
            have e18 := hin.is 1 18 (by kernel_rfl) (by decide) (by kernel_rfl) (by kernel_rfl) _ rfl
            have hO := HO1.out
            clear hin hout
            intro K Q hK
            go_simp
            exact hK _ _ ⟨Same.refl _, rfl⟩
          refine allp_mild 0 rfl rfl rfl (fun a x_ W hout hin hP => ?_) ?_
          · have e19 := hin.is 2 19 (by kernel_rfl) (by decide) (by kernel_rfl) (by kernel_rfl) _ rfl
            clear hin hout
            intro K Q hK
            go_simp
            exact hK _ _ ⟨Same.refl _, rfl⟩
          refine allp_mild 0 rfl rfl rfl (fun a x_ W hout hin hP => ?_) ?_
          · have e20 := hin.is 3 20 (by kernel_rfl) (by decide) (by kernel_rfl) (by kernel_rfl) _ rfl
            have hc : W.cell? ⟨b1, O1, none⟩ = some (.string s1) := (hP.cell (p := ⟨b1, O1, none⟩) HW1.out).trans (HC10.out)
            clear hP
            clear hin hout
            intro K Q hK
            go_simp
            exact hK _ _ ⟨Same.refl _, rfl⟩
          refine allp_mild 0 rfl rfl rfl (fun a x_ W hout hin hP => ?_) ?_
          · have e1 : a.tmps[1]? = some (.slice (some ⟨b2, o2, none⟩) n c2) := (hout 1 (by kernel_rfl)).trans rfl
            exact does_move rfl e1 ⟨Same.refl _, rfl⟩
          refine allp_mild 0 rfl rfl rfl (fun a x_ W hout hin hP => ?_) ?_
          · have e5 : a.tmps[5]? = some (.int .i64 (k : Int)) := (hout 5 (by kernel_rfl)).trans rfl
            exact does_move rfl e5 ⟨Same.refl _, rfl⟩
          refine allp_mild 0 rfl rfl rfl (fun a x_ W hout hin hP => ?_) ?_
          · have e22 := hin.is 5 22 (by kernel_rfl) (by decide) (by kernel_rfl) (by kernel_rfl) _ rfl
            have e23 := hin.is 6 23 (by kernel_rfl) (by decide) (by kernel_rfl) (by kernel_rfl) _ rfl
            have hO := HO2.out
            clear hin hout
            intro K Q hK
            go_simp
            exact hK _ _ ⟨Same.refl _, rfl⟩
          refine allp_mild 0 rfl rfl rfl (fun a x_ W hout hin hP => ?_) ?_
          · have e24 := hin.is 7 24 (by kernel_rfl) (by decide) (by kernel_rfl) (by kernel_rfl) _ rfl
            clear hin hout
            intro K Q hK
            go_simp
            exact hK _ _ ⟨Same.refl _, rfl⟩
          refine allp_mild 0 rfl rfl rfl (fun a x_ W hout hin hP => ?_) ?_
          · have e25 := hin.is 8 25 (by kernel_rfl) (by decide) (by kernel_rfl) (by kernel_rfl) _ rfl
            have hc : W.cell? ⟨b2, O2, none⟩ = some (.string s2) := (hP.cell (p := ⟨b2, O2, none⟩) HW2.out).trans (HC20.out)
            clear hP
            clear hin hout
            intro K Q hK
            go_simp
            exact hK _ _ ⟨Same.refl _, rfl⟩
          refine allp_mild 0 rfl rfl rfl (fun a x_ W hout hin hP => ?_) ?_
          · have e21 := hin.is 4 21 (by kernel_rfl) (by decide) (by kernel_rfl) (by kernel_rfl) _ rfl
            have e26 := hin.is 9 26 (by kernel_rfl) (by decide) (by kernel_rfl) (by kernel_rfl) _ rfl
            have hq := HQI.out
            clear hP
            clear hin hout
            intro K Q hK
            go_simp
            exact hK _ _ ⟨Same.refl _, rfl⟩
          refine allp_mild 0 rfl rfl rfl (fun a x_ W hout hin hP => ?_) ?_
          · have e27 := hin.is 10 27 (by kernel_rfl) (by decide) (by kernel_rfl) (by kernel_rfl) _ rfl
            exact does_move rfl e27 ⟨Same.refl _, rfl⟩
          refine allp_skip rfl rfl (fun _ => rfl) ?_
          refine allp_skip rfl rfl (fun _ => rfl) ?_
          refine allp_skip rfl rfl (fun _ => rfl) ?_
          refine allp_skip rfl rfl (fun _ => rfl) ?_
          refine allp_skip rfl rfl (fun _ => rfl) ?_
          refine allp_skip rfl rfl (fun _ => rfl) ?_
          refine allp_skip rfl rfl (fun _ => rfl) ?_
          refine allp_skip rfl rfl (fun _ => rfl) ?_
          refine allp_skip rfl rfl (fun _ => rfl) ?_
          refine allp_skip rfl rfl (fun _ => rfl) ?_
          refine allp_skip rfl rfl (fun _ => rfl) ?_
          refine allp_skip rfl rfl (fun _ => rfl) ?_
          refine allp_mild 0 rfl rfl rfl (fun a x_ W hout hin hP => ?_) ?_
          · have e28 := hin.is 11 28 (by kernel_rfl) (by decide) (by kernel_rfl) (by kernel_rfl) _ rfl
            have e40 := hin.is 23 40 (by kernel_rfl) (by decide) (by kernel_rfl) (by kernel_rfl) _ rfl
            exact does_pick rfl e28 ⟨Same.refl _, rfl⟩
          exact all_end (by decide)
        · intro x_ W hP hV
          have hB9 := hP
          have h24 : x_ 24 = .bool true := hV 24 (by decide) (.inl (by kernel_rfl))
          clear hP hV
          simp only [putL, Act.put, List.setIfInBounds_toArray, List.set_cons_succ, List.set_cons_zero, h24]
          refine wpAnyH_done (by kernel_rfl) ?_ _
          clear h24
          have hG := HNO.out k (by rw [HX1.out, HX2.out]; exact fun h => HXY.out (Option.some.inj h))
          go_wp2_with fail
          go_ret
          exact ⟨by first | rfl | (rw [hG]; rfl), hB9⟩

    · obtain rfl : k = n := by omega
      have hG := HALL.out HE.out
      go_wp2_with fail
      go_ret
      exact ⟨by first | rfl | (rw [hG]; rfl), HB.out⟩
end Go.Proofs.YtpmedgibnnonkaaDoor

/- Tables: the law wakes. -/
set_option maxRecDepth 4000
namespace Go.Proofs.YtpmedgibnnonkaaDoor
open Go Go.RowKit
theorem wk_good : goodT [([97#8, 98#8], [3]), ([99#8], [1, 2])] = true := by decide +kernel
theorem wk_bad : goodT [([97#8, 98#8], [3]), ([97#8, 98#8], [3])] = false := by decide +kernel
theorem wk_E : encE [([97#8, 98#8], [3]), ([99#8], [1, 2])] = 0 := encE_z.2 wk_good
theorem wk_f1 : findI [99#8] [([97#8, 98#8], [3]), ([99#8], [1, 2])] = 1 := by decide +kernel
theorem wk_f2 : findI [120#8] [([97#8, 98#8], [3]), ([99#8], [1, 2])] = -1 := by decide +kernel
theorem wk_d1 : decE (encT [([97#8, 98#8], [3]), ([99#8], [1, 2])]) = 0 := (tab_back wk_good).2.1
theorem wk_d2 : decLT (encT [([97#8, 98#8], [3]), ([99#8], [1, 2])]) = [([97#8, 98#8], [3]), ([99#8], [1, 2])] := (tab_back wk_good).1
theorem wk_z1 : decE (zer 32) = 0 := by decide +kernel
theorem wk_z2 : decLT (zer 32) = [] := by decide +kernel
theorem wk_at0 : (encT [([97#8, 98#8], [3]), ([99#8], [1, 2])]).getD 0 0#8 = 2#8 := by decide +kernel
theorem wk_at1 : (encT [([97#8, 98#8], [3]), ([99#8], [1, 2])]).getD 1 0#8 = 97#8 := by decide +kernel
theorem wk_at5 : (encT [([97#8, 98#8], [3]), ([99#8], [1, 2])]).getD 5 0#8 = 1#8 := by decide +kernel
theorem wk_at6 : (encT [([97#8, 98#8], [3]), ([99#8], [1, 2])]).getD 6 0#8 = 3#8 := by decide +kernel
theorem wk_at10 : (encT [([97#8, 98#8], [3]), ([99#8], [1, 2])]).getD 10 0#8 = 99#8 := by decide +kernel
theorem decLT_len (q : List (BitVec 8)) : (decLT q).length ≤ 3 := by
  unfold decLT
  split
  · rename_i h; exact (goodT_parts (by rw [← (dec_good h).1]; exact (okD_parts h).1)).1
  · exact Nat.zero_le _
theorem decLT_small (q : List (BitVec 8)) : ∀ x ∈ decLT q, x.2.length ≤ 1000000 := fun x hx => by
  unfold decLT decQ at hx
  split at hx
  · obtain ⟨j, _, rfl⟩ := List.mem_map.1 hx
    exact Nat.le_trans (fromL_len _) (by decide)
  · cases hx
set_option maxHeartbeats 3200000 in
theorem tabwakes_any (w : World) : Calls Tryd.prog 8 #[] w fun e w' => e = .returned (.bool true) ∧ Below w.heap.size w w' := by
  have HS := St.nil w noF
  refine enter_en Tryd.func8 rfl Tryd.ntmps8 (Nat.le_of_ble_eq_true rfl) fun a0 (HA0 : En 98 [] a0) => ?_
  refine sq_ <| rl_ <| wl_ <| p_ HA0 rfl rfl fun a1 H1 => ln_ <| nx <| sq_ <| rl_ <| wl_ <| n_ H1 rfl (fun _ h => dd_lits HS #[.int .i64 3] rfl (ps := [(0, .int .i64 3)]) (pr1 rfl (pr0)) (z := .int .i64 0) (sz := 1) Tryd.underlying43 (by kernel_rfl) rfl rfl (by kernel_rfl) h) fun g8 W2 HS2 a2 H2 => wl_ <| i_ H2 rfl (v := .agg #[.string (⟨#[97, 98]⟩), .slice (some ⟨g8, 0, none⟩) 1 1]) (dd_bld rfl (ps := [(0, .string (⟨#[97, 98]⟩)), (1, .slice (some ⟨g8, 0, none⟩) 1 1)]) (pr1 rfl (pr1 (H2.ev 8 rfl) (pr0))) (Lz := [[.string (⟨#[]⟩)], [.slice none 0 0]]) (by kernel_rfl) (lens_cons rfl (lens_cons rfl (lens_nil))) (fit_cons (i := 0) rfl rfl (fit_cons (i := 1) rfl rfl (fit_nil))) (cs := #[.string (⟨#[97, 98]⟩), .slice (some ⟨g8, 0, none⟩) 1 1]) rfl) fun a3 H3 => wl_ <| n_ H3 rfl (fun _ h => dd_lits HS2 #[.int .i64 1, .int .i64 2] rfl (ps := [(0, .int .i64 1), (1, .int .i64 2)]) (pr1 rfl (pr1 rfl (pr0))) (z := .int .i64 0) (sz := 1) Tryd.underlying43 (by kernel_rfl) rfl rfl (by kernel_rfl) h) fun g10 W4 HS4 a4 H4 => wl_ <| i_ H4 rfl (v := .agg #[.string (⟨#[99]⟩), .slice (some ⟨g10, 0, none⟩) 2 2]) (dd_bld rfl (ps := [(0, .string (⟨#[99]⟩)), (1, .slice (some ⟨g10, 0, none⟩) 2 2)]) (pr1 rfl (pr1 (H4.ev 10 rfl) (pr0))) (Lz := [[.string (⟨#[]⟩)], [.slice none 0 0]]) (by kernel_rfl) (lens_cons rfl (lens_cons rfl (lens_nil))) (fit_cons (i := 0) rfl rfl (fit_cons (i := 1) rfl rfl (fit_nil))) (cs := #[.string (⟨#[99]⟩), .slice (some ⟨g10, 0, none⟩) 2 2]) rfl) fun a5 H5 => wl_ <| n_ H5 rfl (fun _ h => dd_lits HS4 #[.string (⟨#[97, 98]⟩), .slice (some ⟨g8, 0, none⟩) 1 1, .string (⟨#[99]⟩), .slice (some ⟨g10, 0, none⟩) 2 2] rfl (ps := [(0, .agg #[.string (⟨#[97, 98]⟩), .slice (some ⟨g8, 0, none⟩) 1 1]), (1, .agg #[.string (⟨#[99]⟩), .slice (some ⟨g10, 0, none⟩) 2 2])]) (pr1 (H5.ev 9 rfl) (pr1 (H5.ev 11 rfl) (pr0))) (z := .agg #[.string (⟨#[]⟩), .slice none 0 0]) (sz := 2) Tryd.underlying22 (by kernel_rfl) rfl rfl (by kernel_rfl) h) fun g12 W6 HS6 a6 H6 => wl_ <| p_ H6 rfl rfl fun a7 H7 => ln_ <| nx <| sq_ <| rl_ <| wl_ <| p_ H7 rfl rfl fun a8 H8 => ?_
  clear HA0 a0 HS H1 a1 H2 a2 HS2 H3 a3 H4 a4 HS4 H5 a5 H6 a6
  refine wl_ <| c_ H8 rfl HS6 (v := .tuple #[.agg (bs (encT ([([97#8, 98#8], [3]), ([99#8], [1, 2])]))), .int .i64 0]) (dc_ Tryd.func10 rfl (args1 (H8.ev 14 rfl)) (enct_any _ _ _ ([([97#8, 98#8], [3]), ([99#8], [1, 2])]) W6 (vols_row (l := volL [([97#8, 98#8], [3]), ([99#8], [1, 2])]) (HS6.row 2 rfl) (Nat.le_refl _) (by decide) (get_consP (volAt_of (p := [97#8, 98#8]) (L := [3]) (ints_rowI (HS6.row 0 rfl) (by decide) (by decide)) (by decide)) (get_consP (volAt_of (p := [99#8]) (L := [1, 2]) (ints_rowI (HS6.row 1 rfl) (by decide) (by decide)) (by decide)) (get_nilP)))) (by decide) (by decide)) (fun _ w9 h9 => ⟨_, by rw [wk_E] at h9; exact h9.1, rfl, h9.2⟩)) fun W9 HS9 a9 H9 => wl_ <| p_ H9 rfl rfl fun a10 H10 => wl_ <| i_ H10 rfl (dd_ext rfl (H10.ev 13 rfl) rfl) fun a11 H11 => wl_ <| i_ H11 rfl (dd_ext rfl (H11.ev 13 rfl) rfl) fun a12 H12 => wl_ <| n_ H12 rfl (fun _ h => dd_new HS9 (bs (zer 32)) rfl (z := .agg (bs (zer 32))) (by kernel_rfl) rfl h) fun g2 W13 HS13 a13 H13 => wl_ <| t_ rfl (fun _ h => dd_setrow HS13 3 rfl rfl (H13.ev 2 rfl) (H13.ev 16 rfl) (by kernel_rfl) (((size_bs _).trans (length_encT _)) : (bs (encT ([([97#8, 98#8], [3]), ([99#8], [1, 2])]))).size = 32) (((size_bs _).trans (length_zer 32)) : (bs (zer 32)).size = 32) (one_bs _) h) fun W14 HS14 => wl_ <| p_ H13 rfl rfl fun a15 H15 => ln_ <| nx <| sq_ <| rl_ <| wl_ <| i_ H15 rfl (v := .agg (bs (encT ([([97#8, 98#8], [3]), ([99#8], [1, 2])])))) (dd_load HS14 3 0 rfl rfl (H15.ev 2 rfl) (slab_whole _) Tryd.underlying24 rfl (by rw [show (bs (encT ([([97#8, 98#8], [3]), ([99#8], [1, 2])]))).size = 32 from ((size_bs _).trans (length_encT _))]; kernel_rfl)) fun a16 H16 => ?_
  clear H7 a7 H8 a8 HS6 H9 a9 H10 a10 H11 a11 HS9 H12 a12 HS13 H13 a13
  clear H15 a15
  refine wl_ <| d_ H16 rfl (R := fun v w9 => ∃ A18 C18, v = .tuple #[.slice A18 2 C18, .int .i64 0] ∧ ((volL ([([97#8, 98#8], [3]), ([99#8], [1, 2])])).length = 2 ∧ 2 ≤ 3) ∧ (OV W14.heap.size w9 (.slice A18 2 C18) (volL ([([97#8, 98#8], [3]), ([99#8], [1, 2])]))) ∧ Below W14.heap.size W14 w9) (dc_ Tryd.func12 rfl (args1 (H16.ev 19 rfl)) (dect_any (encT ([([97#8, 98#8], [3]), ([99#8], [1, 2])])) W14 (length_encT _)) (fun _ w9 ⟨v9, he, ho, hb⟩ => by rw [wk_d1] at he; rw [wk_d2] at ho; obtain ⟨A9, n9, c9, rfl, h1, _⟩ := OV.form2 ho; obtain rfl : n9 = 2 := h1.symm; exact ⟨_, he, A9, c9, rfl, ⟨h1, (by decide)⟩, ho, hb⟩)) ?_
  rintro _ W17 ⟨A18, C18, rfl, hNd18, hov18, hb17⟩ a17 H17
  have HS17 := HS14.same hb17
  clear H16 a16
  have HBs19 : Below w.heap.size w W17 := HS17.below
  have HR19_0 := fun (W9 : World) (hb9 : Below W17.heap.size W17 W9) => (HS17.row 0 rfl).call hb9
  have HR19_1 := fun (W9 : World) (hb9 : Below W17.heap.size W17 W9) => (HS17.row 1 rfl).call hb9
  have HR19_2 := fun (W9 : World) (hb9 : Below W17.heap.size W17 W9) => (HS17.row 2 rfl).call hb9
  have HR19_3 := fun (W9 : World) (hb9 : Below W17.heap.size W17 W9) => (HS17.row 3 rfl).call hb9
  have HSb19 := St.nil W17 noF
  clear HS17
  have HVd18 := fun (W9 : World) (hb9 : Below W17.heap.size W17 W9) => ((hov18.vols (Nat.le_trans (Nat.le_of_eq hNd18.1) (Nat.le_trans hNd18.2 (by decide)))).below hb9 (Nat.le_refl _))
  have hMd18 := (show ∀ x ∈ ([([97#8, 98#8], [3]), ([99#8], [1, 2])] : List Tv), x.2.length ≤ 1000000 by decide)
  clear HS14 hb17
  refine wl_ <| p_ H17 rfl rfl fun a20 H20 => wl_ <| i_ H20 rfl (dd_ext rfl (H20.ev 18 rfl) rfl) fun a21 H21 => wl_ <| i_ H21 rfl (dd_ext rfl (H21.ev 18 rfl) rfl) fun a22 H22 => q_ H22 2 rfl fun a23 H23 => ln_ <| ?_
  clear H17 a17 H20 a20 H21 a21 H22 a22
  have H24 := H23.sel [1, 2, 3, 4, 5] rfl
  refine nx <| sq_ <| rl_ <| wl_ <| i_ H24 rfl (v := .agg (bs (zer 32))) (dd_bldk rfl (ps := []) (pr0) (cs := bs (zer 32)) (by kernel_rfl)) fun a25 H25 => ?_
  clear H23 H24 a23
  refine wl_ <| d_ H25 rfl (R := fun v w9 => ∃ A27 C27, v = .tuple #[.slice A27 0 C27, .int .i64 0] ∧ ((volL ([])).length = 0 ∧ 0 ≤ 3) ∧ (OV W17.heap.size w9 (.slice A27 0 C27) (volL ([]))) ∧ Below W17.heap.size W17 w9) (dc_ Tryd.func12 rfl (args1 (H25.ev 24 rfl)) (dect_any (zer 32) W17 (length_zer 32)) (fun _ w9 ⟨v9, he, ho, hb⟩ => by rw [wk_z1] at he; rw [wk_z2] at ho; obtain ⟨A9, n9, c9, rfl, h1, _⟩ := OV.form2 ho; obtain rfl : n9 = 0 := h1.symm; exact ⟨_, he, A9, c9, rfl, ⟨h1, (by decide)⟩, ho, hb⟩)) ?_
  rintro _ W26 ⟨A27, C27, rfl, hNd27, hov27, hb26⟩ a26 H26
  have HS26 := HSb19.same hb26
  clear H25 a25
  have HBs28 : Below W17.heap.size W17 W26 := HS26.below
  have HR19_0r := fun (W9 : World) (hb9 : Below W26.heap.size W26 W9) => HR19_0 W9 (HBs28.trans (hb9.mono HBs28.size))
  clear HR19_0
  have HR19_0 := HR19_0r
  clear HR19_0r
  have HR19_1r := fun (W9 : World) (hb9 : Below W26.heap.size W26 W9) => HR19_1 W9 (HBs28.trans (hb9.mono HBs28.size))
  clear HR19_1
  have HR19_1 := HR19_1r
  clear HR19_1r
  have HR19_2r := fun (W9 : World) (hb9 : Below W26.heap.size W26 W9) => HR19_2 W9 (HBs28.trans (hb9.mono HBs28.size))
  clear HR19_2
  have HR19_2 := HR19_2r
  clear HR19_2r
  have HR19_3r := fun (W9 : World) (hb9 : Below W26.heap.size W26 W9) => HR19_3 W9 (HBs28.trans (hb9.mono HBs28.size))
  clear HR19_3
  have HR19_3 := HR19_3r
  clear HR19_3r
  have HVd18r := fun (W9 : World) (hb9 : Below W26.heap.size W26 W9) => HVd18 W9 (HBs28.trans (hb9.mono HBs28.size))
  clear HVd18
  have HVd18 := HVd18r
  clear HVd18r
  have HSb28 := St.nil W26 noF
  clear HS26
  have HVd27 := fun (W9 : World) (hb9 : Below W26.heap.size W26 W9) => ((hov27.vols (Nat.le_trans (Nat.le_of_eq hNd27.1) (Nat.le_trans hNd27.2 (by decide)))).below hb9 (Nat.le_refl _))
  have hMd27 := (show ∀ x ∈ ([] : List Tv), x.2.length ≤ 1000000 by decide)
  clear HSb19 hb26
  refine wl_ <| p_ H26 rfl rfl fun a29 H29 => wl_ <| i_ H29 rfl (dd_ext rfl (H29.ev 23 rfl) rfl) fun a30 H30 => wl_ <| i_ H30 rfl (dd_ext rfl (H30.ev 23 rfl) rfl) fun a31 H31 => q_ H31 2 rfl fun a32 H32 => ln_ <| nx <| sq_ <| ?_
  clear H26 a26 H29 a29 H30 a30 H31 a31
  refine wi_ HSb28 [] rfl [] rfl fun HSh33 hx33 => hp_ H32 0 hx33 rfl rfl rfl fun a34 H34 => ht_ H34 1 hx33 rfl rfl (fun _ _ _ => dd_cmp rfl (H34.ev 28 rfl) rfl (eq_t (by decide))) fun a35 H35 => hp_ H35 2 hx33 rfl rfl rfl fun a36 H36 => htg H36 3 hx33 rfl (wg_ H36 rfl rfl rfl rfl) rfl (fun _ _ _ => xA 32 1 0 rfl (H36.ev 2 rfl) rfl) fun a37 H37 => htg H37 4 hx33 rfl (wg_ H37 rfl rfl rfl rfl) rfl (v := .int .u8 2) (fun _ _ HS9 => dd_getR (HR19_3 _ HS9.below) rfl (H37.ev 31 rfl) ((bs_get (length_encT _) 0 (by decide)).trans (by rw [wk_at0]; rfl)) Tryd.underlying5 rfl) fun a38 H38 => htg H38 5 hx33 rfl (wg_ H38 rfl rfl rfl rfl) rfl (fun _ _ _ => dd_cmp rfl (H38.ev 32 rfl) rfl (eq_t (by decide))) fun a39 H39 => hp_ H39 6 hx33 rfl rfl rfl fun a40 H40 => ?_
  clear HSb28 H32 a32 H34 a34 H35 a35 H36 a36 H37 a37 H38 a38
  refine hp_ H40 7 hx33 rfl rfl rfl fun a41 H41 => htg H41 8 hx33 rfl (wg_ H41 rfl rfl rfl rfl) rfl (fun _ _ _ => xA 32 1 1 rfl (H41.ev 2 rfl) rfl) fun a42 H42 => htg H42 9 hx33 rfl (wg_ H42 rfl rfl rfl rfl) rfl (v := .int .u8 97) (fun _ _ HS9 => dd_getR (HR19_3 _ HS9.below) rfl (H42.ev 36 rfl) ((bs_get (length_encT _) 1 (by decide)).trans (by rw [wk_at1]; rfl)) Tryd.underlying5 rfl) fun a43 H43 => htg H43 10 hx33 rfl (wg_ H43 rfl rfl rfl rfl) rfl (fun _ _ _ => dd_cmp rfl (H43.ev 37 rfl) rfl (eq_t (by decide))) fun a44 H44 => hp_ H44 11 hx33 rfl rfl rfl fun a45 H45 => hp_ H45 12 hx33 rfl rfl rfl fun a46 H46 => htg H46 13 hx33 rfl (wg_ H46 rfl rfl rfl rfl) rfl (fun _ _ _ => xA 32 1 5 rfl (H46.ev 2 rfl) rfl) fun a47 H47 => htg H47 14 hx33 rfl (wg_ H47 rfl rfl rfl rfl) rfl (v := .int .u8 1) (fun _ _ HS9 => dd_getR (HR19_3 _ HS9.below) rfl (H47.ev 41 rfl) ((bs_get (length_encT _) 5 (by decide)).trans (by rw [wk_at5]; rfl)) Tryd.underlying5 rfl) fun a48 H48 => ?_
  clear H39 a39 H40 a40 H41 a41 H42 a42 H43 a43 H44 a44 H45 a45 H46 a46
  refine htg H48 15 hx33 rfl (wg_ H48 rfl rfl rfl rfl) rfl (fun _ _ _ => dd_cmp rfl (H48.ev 42 rfl) rfl (eq_t (by decide))) fun a49 H49 => hp_ H49 16 hx33 rfl rfl rfl fun a50 H50 => hp_ H50 17 hx33 rfl rfl rfl fun a51 H51 => htg H51 18 hx33 rfl (wg_ H51 rfl rfl rfl rfl) rfl (fun _ _ _ => xA 32 1 6 rfl (H51.ev 2 rfl) rfl) fun a52 H52 => htg H52 19 hx33 rfl (wg_ H52 rfl rfl rfl rfl) rfl (v := .int .u8 3) (fun _ _ HS9 => dd_getR (HR19_3 _ HS9.below) rfl (H52.ev 46 rfl) ((bs_get (length_encT _) 6 (by decide)).trans (by rw [wk_at6]; rfl)) Tryd.underlying5 rfl) fun a53 H53 => htg H53 20 hx33 rfl (wg_ H53 rfl rfl rfl rfl) rfl (fun _ _ _ => dd_cmp rfl (H53.ev 47 rfl) rfl (eq_t (by decide))) fun a54 H54 => hp_ H54 21 hx33 rfl rfl rfl fun a55 H55 => hp_ H55 22 hx33 rfl rfl rfl fun a56 H56 => ?_
  clear H47 a47 H48 a48 H49 a49 H50 a50 H51 a51 H52 a52 H53 a53 H54 a54
  refine htg H56 23 hx33 rfl (wg_ H56 rfl rfl rfl rfl) rfl (fun _ _ _ => xA 32 1 10 rfl (H56.ev 2 rfl) rfl) fun a57 H57 => htg H57 24 hx33 rfl (wg_ H57 rfl rfl rfl rfl) rfl (v := .int .u8 99) (fun _ _ HS9 => dd_getR (HR19_3 _ HS9.below) rfl (H57.ev 51 rfl) ((bs_get (length_encT _) 10 (by decide)).trans (by rw [wk_at10]; rfl)) Tryd.underlying5 rfl) fun a58 H58 => htg H58 25 hx33 rfl (wg_ H58 rfl rfl rfl rfl) rfl (fun _ _ _ => dd_cmp rfl (H58.ev 52 rfl) rfl (eq_t (by decide))) fun a59 H59 => hp_ H59 26 hx33 rfl rfl rfl fun a60 H60 => hp_ H60 27 hx33 rfl rfl rfl fun a61 H61 => htg H61 28 hx33 rfl (wg_ H61 rfl rfl rfl rfl) rfl (fun _ _ _ => dd_mv rfl (H61.ev 5 rfl)) fun a62 H62 => htg H62 29 hx33 rfl (wg_ H62 rfl rfl rfl rfl) rfl (fun _ _ _ => dd_cmp rfl (H62.ev 56 rfl) rfl (eq_t (by decide))) fun a63 H63 => hp_ H63 30 hx33 rfl rfl rfl fun a64 H64 => ?_
  clear H55 a55 H56 a56 H57 a57 H58 a58 H59 a59 H60 a60 H61 a61 H62 a62
  refine hp_ H64 31 hx33 rfl rfl rfl fun a65 H65 => htg H65 32 hx33 rfl (wg_ H65 rfl rfl rfl rfl) rfl (fun _ _ _ => dd_mv rfl (H65.ev 4 rfl)) fun a66 H66 => htg H66 33 hx33 rfl (wg_ H66 rfl rfl rfl rfl) rfl (fun _ _ _ => dd_mv rfl (H66.ev 1 rfl)) fun a67 H67 => h1_ 34 rfl <| cg H67 (wg_ H67 rfl rfl rfl rfl) rfl HSh33 (v := .bool true) (dc_ Tryd.func16 rfl (args2 (H67.ev 60 rfl) (H67.ev 61 rfl)) (keepvols_any (volL ([([97#8, 98#8], [3]), ([99#8], [1, 2])])) (volL ([([97#8, 98#8], [3]), ([99#8], [1, 2])])) _ _ _ _ _ _ W26.drew (HVd18 _ HSh33.below) (vols_row (l := volL [([97#8, 98#8], [3]), ([99#8], [1, 2])]) (HR19_2 _ HSh33.below) (Nat.le_refl _) (by decide) (get_consP (volAt_of (p := [97#8, 98#8]) (L := [3]) (ints_rowI (HR19_0 _ HSh33.below) (by decide) (by decide)) (by decide)) (get_consP (volAt_of (p := [99#8]) (L := [1, 2]) (ints_rowI (HR19_1 _ HSh33.below) (by decide) (by decide)) (by decide)) (get_nilP)))) (Nat.le_trans hNd18.2 (by decide)) (by decide) (vols_lenB (hMd18))) (fun _ w9 h9 => ⟨_, h9.1, by rw [decide_eq_true rfl], h9.2⟩)) fun W68 HS68 a68 H68 => sx_ (sxi HS68 [] rfl) fun hx69 => hp_ H68 35 hx69 rfl rfl rfl fun a70 H70 => hp_ H70 36 hx69 rfl rfl rfl fun a71 H71 => htg H71 37 hx69 rfl (wg_ H71 rfl rfl rfl rfl) rfl (fun _ _ _ => dd_mv rfl (H71.ev 7 rfl)) fun a72 H72 => ?_
  clear H63 a63 H64 a64 H65 a65 H66 a66 H67 a67 HSh33 hx33 H68 a68 H70 a70
  refine htg H72 38 hx69 rfl (wg_ H72 rfl rfl rfl rfl) rfl (fun _ _ _ => dd_cmp rfl (H72.ev 65 rfl) rfl (eq_t (by decide))) fun a73 H73 => hp_ H73 39 hx69 rfl rfl rfl fun a74 H74 => hp_ H74 40 hx69 rfl rfl rfl fun a75 H75 => htg H75 41 hx69 rfl (wg_ H75 rfl rfl rfl rfl) rfl (fun _ _ _ => dd_mv rfl (H75.ev 6 rfl)) fun a76 H76 => htg H76 42 hx69 rfl (wg_ H76 rfl rfl rfl rfl) rfl (v := .int .i64 0) (fun _ _ _ => dd_len rfl (H76.ev 69 rfl) Tryd.underlying22) fun a77 H77 => htg H77 43 hx69 rfl (wg_ H77 rfl rfl rfl rfl) rfl (fun _ _ _ => dd_cmp rfl (H77.ev 70 rfl) rfl (eq_t (by decide))) fun a78 H78 => hp_ H78 44 hx69 rfl rfl rfl fun a79 H79 => hp_ H79 45 hx69 rfl rfl rfl fun a80 H80 => ?_
  clear H71 a71 H72 a72 H73 a73 H74 a74 H75 a75 H76 a76 H77 a77 H78 a78
  refine htg H80 46 hx69 rfl (wg_ H80 rfl rfl rfl rfl) rfl (fun _ _ _ => dd_mv rfl (H80.ev 1 rfl)) fun a81 H81 => h1_ 47 rfl <| cg H81 (wg_ H81 rfl rfl rfl rfl) rfl HS68 (v := .int .i64 1) (dc_ Tryd.func17 rfl (args2 rfl (H81.ev 74 rfl)) (find_any _ _ _ ([99#8]) ([([97#8, 98#8], [3]), ([99#8], [1, 2])]) W68 (vols_row (l := volL [([97#8, 98#8], [3]), ([99#8], [1, 2])]) (HR19_2 _ HS68.below) (Nat.le_refl _) (by decide) (get_consP (volAt_of (p := [97#8, 98#8]) (L := [3]) (ints_rowI (HR19_0 _ HS68.below) (by decide) (by decide)) (by decide)) (get_consP (volAt_of (p := [99#8]) (L := [1, 2]) (ints_rowI (HR19_1 _ HS68.below) (by decide) (by decide)) (by decide)) (get_nilP)))) (by decide)) (fun _ w9 h9 => ⟨_, h9.1, by rw [wk_f1], h9.2⟩)) fun W82 HS82 a82 H82 => sx_ (sxi HS82 [] rfl) fun hx83 => htg H82 48 hx83 rfl (wg_ H82 rfl rfl rfl rfl) rfl (fun _ _ _ => dd_cmp rfl (H82.ev 75 rfl) rfl (eq_t (by decide))) fun a84 H84 => hp_ H84 49 hx83 rfl rfl rfl fun a85 H85 => hp_ H85 50 hx83 rfl rfl rfl fun a86 H86 => htg H86 51 hx83 rfl (wg_ H86 rfl rfl rfl rfl) rfl (fun _ _ _ => dd_mv rfl (H86.ev 1 rfl)) fun a87 H87 => h1_ 52 rfl <| cg H87 (wg_ H87 rfl rfl rfl rfl) rfl HS82 (v := .int .i64 (-1)) (dc_ Tryd.func17 rfl (args2 rfl (H87.ev 79 rfl)) (find_any _ _ _ ([120#8]) ([([97#8, 98#8], [3]), ([99#8], [1, 2])]) W82 (vols_row (l := volL [([97#8, 98#8], [3]), ([99#8], [1, 2])]) (HR19_2 _ HS82.below) (Nat.le_refl _) (by decide) (get_consP (volAt_of (p := [97#8, 98#8]) (L := [3]) (ints_rowI (HR19_0 _ HS82.below) (by decide) (by decide)) (by decide)) (get_consP (volAt_of (p := [99#8]) (L := [1, 2]) (ints_rowI (HR19_1 _ HS82.below) (by decide) (by decide)) (by decide)) (get_nilP)))) (by decide)) (fun _ w9 h9 => ⟨_, h9.1, by rw [wk_f2], h9.2⟩)) fun W88 HS88 a88 H88 => ?_
  clear H79 a79 H80 a80 H81 a81 HS68 hx69 H82 a82 H84 a84 H85 a85 H86 a86
  refine sx_ (sxi HS88 [] rfl) fun hx89 => htg H88 53 hx89 rfl (wg_ H88 rfl rfl rfl rfl) rfl (fun _ _ _ => dd_cmp rfl (H88.ev 80 rfl) rfl (eq_t (by decide))) fun a90 H90 => hp_ H90 54 hx89 rfl rfl rfl fun a91 H91 => hp_ H91 55 hx89 rfl rfl rfl fun a92 H92 => htg H92 56 hx89 rfl (wg_ H92 rfl rfl rfl rfl) rfl (fun _ _ _ => dd_mv rfl (H92.ev 1 rfl)) fun a93 H93 => h1_ 57 rfl <| cg H93 (wg_ H93 rfl rfl rfl rfl) rfl HS88 (v := .bool true) (dc_ Tryd.func14 rfl (args1 (H93.ev 84 rfl)) (goodt_any _ _ _ ([([97#8, 98#8], [3]), ([99#8], [1, 2])]) W88 (vols_row (l := volL [([97#8, 98#8], [3]), ([99#8], [1, 2])]) (HR19_2 _ HS88.below) (Nat.le_refl _) (by decide) (get_consP (volAt_of (p := [97#8, 98#8]) (L := [3]) (ints_rowI (HR19_0 _ HS88.below) (by decide) (by decide)) (by decide)) (get_consP (volAt_of (p := [99#8]) (L := [1, 2]) (ints_rowI (HR19_1 _ HS88.below) (by decide) (by decide)) (by decide)) (get_nilP)))) (by decide) (by decide)) (fun _ w9 h9 => ⟨_, h9.1, by rw [wk_good], h9.2⟩)) fun W94 HS94 a94 H94 => sx_ (sxi HS94 [] rfl) fun hx95 => hp_ H94 58 hx95 rfl rfl rfl fun a96 H96 => ?_
  clear H87 a87 HS82 hx83 H88 a88 H90 a90 H91 a91 H92 a92 H93 a93 HS88 hx89
  refine hp_ H96 59 hx95 rfl rfl rfl fun a97 H97 => htg H97 60 hx95 rfl (wg_ H97 rfl rfl rfl rfl) rfl (fun _ _ _ => dd_mv rfl (H97.ev 1 rfl)) fun a98 H98 => htg H98 61 hx95 rfl (wg_ H98 rfl rfl rfl rfl) rfl (fun _ _ _ => xS 2 0 rfl (H98.ev 88 rfl) rfl) fun a99 H99 => htg H99 62 hx95 rfl (wg_ H99 rfl rfl rfl rfl) rfl (v := .agg #[.string (⟨#[97, 98]⟩), .slice (some ⟨g8, 0, none⟩) 1 1]) (fun _ _ HS9 => dd_loadR (HR19_2 _ HS9.below) rfl (H99.ev 89 rfl) rfl Tryd.underlying45 rfl (by kernel_rfl)) fun a100 H100 => htg H100 63 hx95 rfl (wg_ H100 rfl rfl rfl rfl) rfl (fun _ _ _ => dd_mv rfl (H100.ev 1 rfl)) fun a101 H101 => htg H101 64 hx95 rfl (wg_ H101 rfl rfl rfl rfl) rfl (fun _ _ _ => xS 2 0 rfl (H101.ev 91 rfl) rfl) fun a102 H102 => htg H102 65 hx95 rfl (wg_ H102 rfl rfl rfl rfl) rfl (v := .agg #[.string (⟨#[97, 98]⟩), .slice (some ⟨g8, 0, none⟩) 1 1]) (fun _ _ HS9 => dd_loadR (HR19_2 _ HS9.below) rfl (H102.ev 92 rfl) rfl Tryd.underlying45 rfl (by kernel_rfl)) fun a103 H103 => h1_ 66 rfl <| ng H103 (wg_ H103 rfl rfl rfl rfl) rfl (fun _ h => dd_lits HS94 #[.string (⟨#[97, 98]⟩), .slice (some ⟨g8, 0, none⟩) 1 1, .string (⟨#[97, 98]⟩), .slice (some ⟨g8, 0, none⟩) 1 1] rfl (ps := [(0, .agg #[.string (⟨#[97, 98]⟩), .slice (some ⟨g8, 0, none⟩) 1 1]), (1, .agg #[.string (⟨#[97, 98]⟩), .slice (some ⟨g8, 0, none⟩) 1 1])]) (pr1 (H103.ev 90 rfl) (pr1 (H103.ev 93 rfl) (pr0))) (z := .agg #[.string (⟨#[]⟩), .slice none 0 0]) (sz := 2) Tryd.underlying22 (by kernel_rfl) rfl rfl (by kernel_rfl) h) fun g94 W104 HS104 a104 H104 => ?_
  clear H94 a94 H96 a96 H97 a97 H98 a98 H99 a99 H100 a100 H101 a101 H102 a102
  refine sx_ (sxi HS104 [0] rfl) fun hx105 => h1_ 67 rfl <| cg H104 (wg_ H104 rfl rfl rfl rfl) rfl HS104 (v := .bool false) (dc_ Tryd.func14 rfl (args1 (H104.ev 94 rfl)) (goodt_any _ _ _ ([([97#8, 98#8], [3]), ([97#8, 98#8], [3])]) W104 (vols_row (l := volL [([97#8, 98#8], [3]), ([97#8, 98#8], [3])]) (HS104.row 0 rfl) (Nat.le_refl _) (by decide) (get_consP (volAt_of (p := [97#8, 98#8]) (L := [3]) (ints_rowI (HR19_0 _ HS104.below) (by decide) (by decide)) (by decide)) (get_consP (volAt_of (p := [97#8, 98#8]) (L := [3]) (ints_rowI (HR19_0 _ HS104.below) (by decide) (by decide)) (by decide)) (get_nilP)))) (by decide) (by decide)) (fun _ w9 h9 => ⟨_, h9.1, by rw [wk_bad], h9.2⟩)) fun W106 HS106 a106 H106 => sx_ (sxi HS106 [0] rfl) fun hx107 => htg H106 68 hx107 rfl (wg_ H106 rfl rfl rfl rfl) rfl (v := .bool true) (fun _ _ _ => dd_nt rfl (H106.ev 95 rfl) rfl) fun a108 H108 => hp_ H108 69 hx107 rfl rfl rfl fun a109 H109 => hp_ H109 70 hx107 rfl rfl rfl fun a110 H110 => ?_
  clear HS94 H103 a103 hx95 H104 a104 HS104 hx105 H106 a106 H108 a108 H109 a109
  refine wpAnyH_done (by kernel_rfl) ?_ _
  clear hx107
  refine nx <| wp_ret <| ret_run H110.env0 (res_t Tryd.results8 (H110.get 0 rfl)) <| ?_
  exact ⟨rfl, (HBs19.trans ((HBs28.trans (HS106.below.mono HBs28.size)).mono HBs19.size))⟩
end Go.Proofs.YtpmedgibnnonkaaDoor

/- append onto an empty slice of ints of no room of the call's own: nothing that stood is changed. -/
set_option maxRecDepth 4000
namespace Go.Proofs.YtpmedgibnnonkaaDoor
open Go Go.RowKit
end Go.Proofs.YtpmedgibnnonkaaDoor

/- The law's own volumes: copies. -/
set_option maxRecDepth 4000
namespace Go.Proofs.YtpmedgibnnonkaaDoor
open Go Go.RowKit
end Go.Proofs.YtpmedgibnnonkaaDoor

/- Are volumes not too many, nor too long? -/
set_option maxRecDepth 4000
namespace Go.Proofs.YtpmedgibnnonkaaDoor
open Go Go.RowKit
def okV (x : Vl) : Bool := decide (x.1.size ≤ 100) && decide (x.2.length ≤ 50)
def fairV (l : List Vl) : Bool := l.all okV && decide (l.length ≤ 20)
theorem fairV_len {l : List Vl} (h : fairV l = true) : l.length ≤ 20 := by unfold fairV at h; simp at h; exact h.2
theorem fairV_each {l : List Vl} (h : fairV l = true) : ∀ x ∈ l, x.2.length ≤ 50 := by
  intro x hx
  unfold fairV at h
  have h := (Bool.and_eq_true _ _ ▸ h).1
  have := List.all_eq_true.1 h x hx
  unfold okV at this
  simp at this
  exact this.2
set_option maxHeartbeats 1600000 in
theorem fairV_any (A : Option Addr) (n c : Nat) (l : List Vl) (w : World) (h : VolsAt w (.slice A n c) l) (hn : n ≤ maxLen) :
    Calls Tryd.prog 7 #[.slice A n c] w fun e w' => e = .returned (.bool (fairV l)) ∧ w = w' := by
  have hln := vols_len h
  have HF := Lib.hid (fun k (hk : k < l.length) => vols_get h hk)
  have HL := Lib.hid hln
  obtain ⟨G, hG⟩ : ∃ G, fairV l = G := ⟨_, rfl⟩
  have HALL : Hid ((∀ k x, l[k]? = some x → okV x = true) → G = decide (n ≤ 20)) := Lib.hid fun h => by
    rw [← hG]
    unfold fairV
    rw [List.all_eq_true.2 (fun x hx => by obtain ⟨k, hk⟩ := List.getElem?_of_mem hx; exact h k x hk), hln]
    rfl
  have HNO : Hid (∀ k x, l[k]? = some x → okV x = false → G = false) := Lib.hid fun k x hx h => by
    rw [← hG]
    unfold fairV
    have : l.all okV = false := by
      rw [Bool.eq_false_iff]
      intro h2
      rw [List.all_eq_true.1 h2 x (List.mem_of_getElem? hx)] at h
      cases h
    rw [this]; rfl
  have HN9 : Hid (n ≤ 9223372036854775807) := Lib.hid (by unfold maxLen at hn; omega)
  rw [hG]
  clear h hln hG hn
  go_enter Tryd.func7, Tryd.ntmps7
  go_wp2_with fail
  go_loopw [3] (fun i wr => ∃ k : Nat, k ≤ n ∧ i = .int .i64 k ∧ Hid (∀ j < k, ∀ x, l[j]? = some x → okV x = true) ∧ w = wr) (fun i _ => n - (intOf i).toNat)
  case atStart => exact ⟨0, by omega, rfl, Lib.hid (fun j hj => by omega), rfl⟩
  case round =>
    obtain ⟨k, hk, rfl, HE, rfl⟩ := hrel
    by_cases hlt : k < n
    · obtain ⟨b, o, s0, L, B, m, c1, hx, rfl, hbw, hr, _, hlm, _⟩ := HF.out k (by rw [HL.out]; exact hlt)
      obtain ⟨O, hO⟩ : ∃ O, o + k * 2 = O := ⟨_, rfl⟩
      rw [hO] at hr
      have c0 : w.cell? ⟨b, O, none⟩ = some (.string s0) := hr 0 _ rfl
      have c1' : w.cell? ⟨b, O + 1, none⟩ = some (.slice B m c1) := hr 1 _ rfl
      have hk0 : (0 : Int) ≤ (k : Int) := by omega
      have hk1 : (k : Int) < (n : Int) := by omega
      have hn9 := HN9.out
      obtain ⟨z, hz⟩ : ∃ z, s0.size = z := ⟨_, rfl⟩
      have HOK : Hid (okV (s0, L) = (decide (z ≤ 100) && decide (m ≤ 50))) := Lib.hid (by rw [← hz, ← hlm]; rfl)
      have HX := Lib.hid hx
      clear hr hx hlm
      by_cases h1 : 100 < z
      · have hd1 : decide (100 < z) = true := decide_eq_true h1
        have hd1' : decide ((100 : Int) < (z : Int)) = true := decide_eq_true (by omega)
        have hG := HNO.out k _ HX.out (by rw [HOK.out, decide_eq_false (by omega)]; rfl)
        go_wp2_with fail
        go_ret
        exact ⟨by rw [hG]; rfl, rfl⟩
      have hd1 : decide (100 < z) = false := decide_eq_false h1
      have hd1' : decide ((100 : Int) < (z : Int)) = false := decide_eq_false (by omega)
      by_cases h2 : 50 < m
      · have hd2 : decide (50 < m) = true := decide_eq_true h2
        have hd2' : decide ((50 : Int) < (m : Int)) = true := decide_eq_true (by omega)
        have hG := HNO.out k _ HX.out (by rw [HOK.out, decide_eq_false (p := m ≤ 50) (by omega), Bool.and_false])
        go_wp2_with fail
        go_ret
        exact ⟨by rw [hG]; rfl, rfl⟩
      have hd2 : decide (50 < m) = false := decide_eq_false h2
      have hd2' : decide ((50 : Int) < (m : Int)) = false := decide_eq_false (by omega)
      have HKX : Hid (okV (s0, L) = true) := Lib.hid (by rw [HOK.out, decide_eq_true (p := z ≤ 100) (by omega), decide_eq_true (p := m ≤ 50) (by omega)]; rfl)
      go_wp2_with fail
      refine ⟨⟨k + 1, by omega, by go_num, Lib.hid fun j hj x hx => ?_, by first | rfl | trivial⟩, by simp [intOf]; omega⟩
      rcases Nat.lt_or_eq_of_le (Nat.le_of_lt_succ hj) with h | rfl
      · exact HE.out j h x hx
      · rw [HX.out] at hx; cases hx; exact HKX.out
    · obtain rfl : k = n := by omega
      have hG := HALL.out (fun j x hx => HE.out j (by rw [← HL.out]; exact (List.getElem?_eq_some_iff.1 hx).1) x hx)
      have hn9 := HN9.out
      by_cases h20 : k ≤ 20
      · have hd : decide (k ≤ 20) = true := decide_eq_true h20
        have hd2 : decide ((k : Int) ≤ 20) = true := decide_eq_true (by omega)
        rw [hd] at hG
        go_wp2_with fail
        go_ret
        exact ⟨by rw [hG]; rfl, rfl⟩
      · have hd : decide (k ≤ 20) = false := decide_eq_false h20
        have hd2 : decide ((k : Int) ≤ 20) = false := decide_eq_false (by omega)
        rw [hd] at hG
        go_wp2_with fail
        go_ret
        exact ⟨by rw [hG]; rfl, rfl⟩
end Go.Proofs.YtpmedgibnnonkaaDoor

/- The statements TableTells, TableBack: their walks. -/
set_option maxRecDepth 4000
namespace Go.Proofs.YtpmedgibnnonkaaDoor
open Go Go.RowKit
theorem fair_n {l : List Tv} {n : Nat} (h : fairV (volL l) = true) (hl : l.length = n) : n ≤ 20 := by
  have := fairV_len h
  rw [len_volL, hl] at this; omega
theorem fair_m {l : List Tv} (h : fairV (volL l) = true) : ∀ x ∈ l, x.2.length ≤ 1000000 := fun x hx => by
  have := fairV_each h (strB x.1, x.2) (List.mem_map.2 ⟨x, hx, rfl⟩)
  simp only at this; omega
theorem volL_inj {l m : List Tv} (h : volL l = volL m) : l = m := by
  unfold volL at h
  refine List.map_inj_right (f := fun x : Tv => (strB x.1, x.2)) (fun x y e => ?_) |>.1 h
  injection e with e1 e2
  obtain ⟨p, L⟩ := x
  obtain ⟨q, M⟩ := y
  simp only at e1 e2
  rw [strB_inj e1, e2]
theorem vols_dec {l m : List Tv} (h : goodT l = true) (k : goodT m = true) : decide (volL l = volL m) = decide (encT l = encT m) := by
  rw [enc_inj h k, Bool.eq_iff_iff]
  simp only [decide_eq_true_eq]
  exact ⟨volL_inj, fun e => by rw [e]⟩
set_option maxHeartbeats 3200000 in
theorem tabback_walk (A : Option Addr) (n c : Nat) (l0 : List Vl) (B : Option Addr) (n2 c2 : Nat) (m0 : List Vl) (qb : List (BitVec 8)) (w : World) (h0 : VolsAt w (.slice A n c) l0) (hn0 : n ≤ maxLen) (k0 : VolsAt w (.slice B n2 c2) m0) (hn2 : n2 ≤ maxLen) (hqb : qb.length = 32) :
    Calls Tryd.prog 4 #[.slice A n c, .slice B n2 c2, .agg (bs qb)] w fun e w' => e = .returned (.bool true) ∧ Below w.heap.size w w' := by
  obtain ⟨l, rfl⟩ := volL_all l0
  obtain ⟨m, rfl⟩ := volL_all m0
  have HS := St.nil w noF
  have HVl : ∀ W, Below w.heap.size w W → VolsAt W (.slice A n c) (volL l) := fun W hb => h0.below hb (Nat.le_refl _)
  have hln : l.length = n := by rw [← len_volL]; exact vols_len h0
  have HVm : ∀ W, Below w.heap.size w W → VolsAt W (.slice B n2 c2) (volL m) := fun W hb => k0.below hb (Nat.le_refl _)
  have hln2 : m.length = n2 := by rw [← len_volL]; exact vols_len k0
  refine enter_en Tryd.func4 rfl Tryd.ntmps4 (Nat.le_of_ble_eq_true rfl) fun a0 (HA0 : En 91 [(0, .slice A n c), (1, .slice B n2 c2), (2, .agg (bs qb))] a0) => ?_
  refine sq_ <| rl_ <| wl_ <| n_ HA0 rfl (fun _ h => dd_box HS rfl (HA0.ev 2 rfl) (cs := (bs qb)) rfl h) fun g5 W1 HS1 a1 H1 => wl_ <| p_ H1 rfl rfl fun a2 H2 => ln_ <| nx <| sq_ <| sq_ <| rl_ <| wl_ <| p_ H2 rfl rfl fun a3 H3 => ?_
  clear HS HA0 a0 H1 a1 H2 a2
  cases hb5 : fairV (volL l)
  case false =>
   refine wl_ <| ic H3 rfl (v := .bool false) (dc_ Tryd.func7 rfl (args1 (H3.ev 17 rfl)) (fairV_any _ _ _ (volL l) W1 (HVl _ HS1.below) hn0) (fun _ w9 h9 => ⟨_, h9.1, by rw [hb5], h9.2.symm⟩)) fun a6 H6 => wl_ <| i_ H6 rfl (v := .bool true) (dd_nt rfl (H6.ev 18 rfl) rfl) fun a7 H7 => wl_ <| p_ H7 rfl rfl fun a8 H8 => wl_ <| k_ H8 (wg_ H8 rfl rfl rfl rfl) rfl fun a9 H9 => wl_ <| k_ H9 (wg_ H9 rfl rfl rfl rfl) rfl fun a10 H10 => wl_ <| k_ H10 (wg_ H10 rfl rfl rfl rfl) rfl fun a11 H11 => wl_ <| p_ H11 rfl rfl fun a12 H12 => ln_ <| nx <| ct_ H12 rfl <| sq_ <| rl_ <| wl_ <| c_ H12 rfl HS1 (dcs Tryd.func8 rfl (args0 ) (tabwakes_any W1) (.bool true)) fun W13 HS13 a13 H13 => ?_
   clear H3 a3 H6 a6 H7 a7 H8 a8 H9 a9 H10 a10 H11 a11
   refine wl_ <| p_ H13 rfl rfl fun a14 H14 => ln_ <| nx <| wp_ret <| tr <| ret_run H14.env0 (res_t Tryd.results4 (H14.get 6 rfl)) <| ?_
   clear H12 a12 HS1 H13 a13
   exact ⟨rfl, HS13.below⟩
  case true =>
   refine wl_ <| ic H3 rfl (v := .bool true) (dc_ Tryd.func7 rfl (args1 (H3.ev 17 rfl)) (fairV_any _ _ _ (volL l) W1 (HVl _ HS1.below) hn0) (fun _ w9 h9 => ⟨_, h9.1, by rw [hb5], h9.2.symm⟩)) fun a15 H15 => wl_ <| i_ H15 rfl (v := .bool false) (dd_nt rfl (H15.ev 18 rfl) rfl) fun a16 H16 => wl_ <| p_ H16 rfl rfl fun a17 H17 => wl_ <| ig H17 (wg_ H17 rfl rfl rfl rfl) rfl (dd_mv rfl (H17.ev 1 rfl)) fun a18 H18 => ?_
   clear H3 a3 H15 a15 H16 a16 H17 a17
   cases hb20 : fairV (volL m)
   case false =>
    refine wl_ <| icg H18 (wg_ H18 rfl rfl rfl rfl) rfl (v := .bool false) (dc_ Tryd.func7 rfl (args1 (H18.ev 21 rfl)) (fairV_any _ _ _ (volL m) W1 (HVm _ HS1.below) hn2) (fun _ w9 h9 => ⟨_, h9.1, by rw [hb20], h9.2.symm⟩)) fun a21 H21 => wl_ <| ig H21 (wg_ H21 rfl rfl rfl rfl) rfl (v := .bool true) (dd_nt rfl (H21.ev 22 rfl) rfl) fun a22 H22 => wl_ <| p_ H22 rfl rfl fun a23 H23 => ln_ <| nx <| ct_ H23 rfl <| sq_ <| rl_ <| wl_ <| c_ H23 rfl HS1 (dcs Tryd.func8 rfl (args0 ) (tabwakes_any W1) (.bool true)) fun W24 HS24 a24 H24 => wl_ <| p_ H24 rfl rfl fun a25 H25 => ln_ <| nx <| wp_ret <| tr <| ret_run H25.env0 (res_t Tryd.results4 (H25.get 6 rfl)) <| ?_
    clear H18 a18 H21 a21 H22 a22 H23 a23 HS1 H24 a24
    exact ⟨rfl, HS24.below⟩
   case true =>
    refine wl_ <| icg H18 (wg_ H18 rfl rfl rfl rfl) rfl (v := .bool true) (dc_ Tryd.func7 rfl (args1 (H18.ev 21 rfl)) (fairV_any _ _ _ (volL m) W1 (HVm _ HS1.below) hn2) (fun _ w9 h9 => ⟨_, h9.1, by rw [hb20], h9.2.symm⟩)) fun a26 H26 => wl_ <| ig H26 (wg_ H26 rfl rfl rfl rfl) rfl (v := .bool false) (dd_nt rfl (H26.ev 22 rfl) rfl) fun a27 H27 => wl_ <| p_ H27 rfl rfl fun a28 H28 => ln_ <| nx <| cf_ H28 rfl <| wp_skip <| nx <| sq_ <| rl_ <| ?_
    clear H18 a18 H26 a26 H27 a27
    have hn1 := fair_n hb5 hln
    have hm1 := fair_m hb5
    have hn3 := fair_n hb20 hln2
    have hm3 := fair_m hb20
    refine wl_ <| p_ H28 rfl rfl fun a29 H29 => wl_ <| c_ H29 rfl HS1 (dcs Tryd.func10 rfl (args1 (H29.ev 27 rfl)) (enct_any _ _ _ l W1 (HVl _ HS1.below) (Nat.le_trans hn1 (by decide)) hm1) (.tuple #[.agg (bs (encT l)), .int .i64 (encE l)])) fun W30 HS30 a30 H30 => wl_ <| p_ H30 rfl rfl fun a31 H31 => wl_ <| i_ H31 rfl (dd_ext rfl (H31.ev 26 rfl) rfl) fun a32 H32 => wl_ <| i_ H32 rfl (dd_ext rfl (H32.ev 26 rfl) rfl) fun a33 H33 => wl_ <| n_ H33 rfl (fun _ h => dd_new HS30 (bs (zer 32)) rfl (z := .agg (bs (zer 32))) (by kernel_rfl) rfl h) fun g7 W34 HS34 a34 H34 => wl_ <| t_ rfl (fun _ h => dd_setrow HS34 1 rfl rfl (H34.ev 7 rfl) (H34.ev 29 rfl) (by kernel_rfl) (((size_bs _).trans (length_encT _)) : (bs (encT l)).size = 32) (((size_bs _).trans (length_zer 32)) : (bs (zer 32)).size = 32) (one_bs _) h) fun W35 HS35 => wl_ <| p_ H34 rfl rfl fun a36 H36 => ?_
    clear H28 a28 H29 a29 HS1 H30 a30 H31 a31 H32 a32 HS30 H33 a33 HS34
    refine ln_ <| nx <| sq_ <| rl_ <| wl_ <| p_ H36 rfl rfl fun a37 H37 => wl_ <| c_ H37 rfl HS35 (dcs Tryd.func10 rfl (args1 (H37.ev 32 rfl)) (enct_any _ _ _ m W35 (HVm _ HS35.below) (Nat.le_trans hn3 (by decide)) hm3) (.tuple #[.agg (bs (encT m)), .int .i64 (encE m)])) fun W38 HS38 a38 H38 => wl_ <| p_ H38 rfl rfl fun a39 H39 => wl_ <| i_ H39 rfl (dd_ext rfl (H39.ev 31 rfl) rfl) fun a40 H40 => wl_ <| i_ H40 rfl (dd_ext rfl (H40.ev 31 rfl) rfl) fun a41 H41 => wl_ <| n_ H41 rfl (fun _ h => dd_new HS38 (bs (zer 32)) rfl (z := .agg (bs (zer 32))) (by kernel_rfl) rfl h) fun g9 W42 HS42 a42 H42 => wl_ <| t_ rfl (fun _ h => dd_setrow HS42 2 rfl rfl (H42.ev 9 rfl) (H42.ev 34 rfl) (by kernel_rfl) (((size_bs _).trans (length_encT _)) : (bs (encT m)).size = 32) (((size_bs _).trans (length_zer 32)) : (bs (zer 32)).size = 32) (one_bs _) h) fun W43 HS43 => wl_ <| p_ H42 rfl rfl fun a44 H44 => ?_
    clear H34 a34 H36 a36 H37 a37 HS35 H38 a38 H39 a39 H40 a40 HS38 H41 a41 HS42
    refine ln_ <| ?_
    clear H42 a42
    have H45 := H44.sel [1, 0, 5, 7, 8, 9, 10] rfl
    refine nx <| sq_ <| sq_ <| rl_ <| wl_ <| p_ H45 rfl rfl fun a46 H46 => ?_
    clear H44 H45 a44
    by_cases hc48 : (encE l : Int) = 0
    ·
     refine wl_ <| i_ H46 rfl (dd_cmp rfl (H46.ev 36 rfl) rfl (eq_t hc48)) fun a49 H49 => ln_ <| nx <| ct_ H49 rfl <| sq_ <| rl_ <| wl_ <| i_ H49 rfl (v := .agg (bs (encT l))) (dd_load HS43 1 0 rfl rfl (H49.ev 7 rfl) (slab_whole _) Tryd.underlying24 rfl (by rw [show (bs (encT l)).size = 32 from ((size_bs _).trans (length_encT _))]; kernel_rfl)) fun a50 H50 => ?_
     clear H46 a46 H49 a49
     refine wl_ <| d_ H50 rfl (R := fun v w9 => ∃ A52 N52 C52, v = .tuple #[.slice A52 N52 C52, .int .i64 0] ∧ ((volL l).length = N52 ∧ N52 ≤ 3) ∧ (OV W43.heap.size w9 (.slice A52 N52 C52) (volL l)) ∧ Below W43.heap.size W43 w9) (dc_ Tryd.func12 rfl (args1 (H50.ev 39 rfl)) (dect_any (encT l) W43 (length_encT _)) (fun _ w9 ⟨v9, he, ho, hb⟩ => by rw [(tab_back (encE_z.1 hc48)).2.1] at he; rw [(tab_back (encE_z.1 hc48)).1] at ho; obtain ⟨A9, n9, c9, rfl, h1, _⟩ := OV.form2 ho; exact ⟨_, he, A9, n9, c9, rfl, ⟨h1, by rw [← h1, len_volL]; exact (goodT_parts (encE_z.1 hc48)).1⟩, ho, hb⟩)) ?_
     rintro _ W51 ⟨A52, N52, C52, rfl, hNd52, hov52, hb51⟩ a51 H51
     have HS51 := HS43.same hb51
     clear H50 a50
     have HBs53 : Below w.heap.size w W51 := HS51.below
     have HVlr := fun (W9 : World) (hb9 : Below W51.heap.size W51 W9) => HVl W9 (HBs53.trans (hb9.mono HBs53.size))
     clear HVl
     have HVl := HVlr
     clear HVlr
     have HVmr := fun (W9 : World) (hb9 : Below W51.heap.size W51 W9) => HVm W9 (HBs53.trans (hb9.mono HBs53.size))
     clear HVm
     have HVm := HVmr
     clear HVmr
     have HR53_0 := fun (W9 : World) (hb9 : Below W51.heap.size W51 W9) => (HS51.row 0 rfl).call hb9
     have HR53_1 := fun (W9 : World) (hb9 : Below W51.heap.size W51 W9) => (HS51.row 1 rfl).call hb9
     have HR53_2 := fun (W9 : World) (hb9 : Below W51.heap.size W51 W9) => (HS51.row 2 rfl).call hb9
     have HSb53 := St.nil W51 noF
     clear HS51
     have HVd52 := fun (W9 : World) (hb9 : Below W51.heap.size W51 W9) => ((hov52.vols (Nat.le_trans (Nat.le_of_eq hNd52.1) (Nat.le_trans hNd52.2 (by decide)))).below hb9 (Nat.le_refl _))
     have hMd52 := hm1
     clear HS43 hb51
     refine wl_ <| p_ H51 rfl rfl fun a54 H54 => wl_ <| i_ H54 rfl (dd_ext rfl (H54.ev 38 rfl) rfl) fun a55 H55 => wl_ <| i_ H55 rfl (dd_ext rfl (H55.ev 38 rfl) rfl) fun a56 H56 => q_ H56 2 rfl fun a57 H57 => ln_ <| nx <| sq_ <| rl_ <| wl_ <| p_ H57 rfl rfl fun a58 H58 => wl_ <| i_ H58 rfl (dd_cmp rfl (H58.ev 43 rfl) rfl (ne_f (by decide))) fun a59 H59 => wl_ <| p_ H59 rfl rfl fun a60 H60 => wl_ <| ig H60 (wg_ H60 rfl rfl rfl rfl) rfl (dd_mv rfl (H60.ev 11 rfl)) fun a61 H61 => ?_
     clear H51 a51 H54 a54 H55 a55 H56 a56 H57 a57 H58 a58 H59 a59
     refine wl_ <| ig H61 (wg_ H61 rfl rfl rfl rfl) rfl (dd_mv rfl (H61.ev 0 rfl)) fun a62 H62 => wl_ <| cg H62 (wg_ H62 rfl rfl rfl rfl) rfl HSb53 (v := .bool true) (dc_ Tryd.func16 rfl (args2 (H62.ev 46 rfl) (H62.ev 47 rfl)) (keepvols_any (volL l) (volL l) _ _ _ _ _ _ W51 (HVd52 _ HSb53.below) (HVl _ HSb53.below) (Nat.le_trans hNd52.2 (by decide)) (Nat.le_trans hn1 (by decide)) (vols_lenB (hMd52))) (fun _ w9 h9 => ⟨_, h9.1, by rw [decide_eq_true rfl], h9.2⟩)) fun W63 HS63 a63 H63 => wl_ <| ig H63 (wg_ H63 rfl rfl rfl rfl) rfl (v := .bool false) (dd_nt rfl (H63.ev 48 rfl) rfl) fun a64 H64 => wl_ <| p_ H64 rfl rfl fun a65 H65 => ln_ <| ?_
     clear H60 a60 H61 a61 H62 a62 HSb53 H63 a63 H64 a64
     have H66 := H65.sel [1, 0, 5, 7, 8, 9, 10, 50] rfl
     refine nx <| cf_ H66 rfl <| wp_skip <| nx <| sq_ <| sq_ <| ?_
     clear H65
     by_cases hc72 : (encE m : Int) = 0
     ·
      cases hb83 : decide (encT l = encT m)
      case false =>
       refine wi_ HS63 [] rfl [] rfl fun HSh84 hx84 => hp_ H66 0 hx84 rfl rfl rfl fun a85 H85 => ht_ H85 1 hx84 rfl rfl (fun _ _ _ => dd_cmp rfl (H85.ev 51 rfl) rfl (eq_t hc48)) fun a86 H86 => hp_ H86 2 hx84 rfl rfl rfl fun a87 H87 => htg H87 3 hx84 rfl (wg_ H87 rfl rfl rfl rfl) rfl (fun _ _ _ => dd_mv rfl (H87.ev 10 rfl)) fun a88 H88 => htg H88 4 hx84 rfl (wg_ H88 rfl rfl rfl rfl) rfl (fun _ _ _ => dd_cmp rfl (H88.ev 54 rfl) rfl (eq_t hc72)) fun a89 H89 => hp_ H89 5 hx84 rfl rfl rfl fun a90 H90 => hp_ H90 6 hx84 rfl rfl rfl fun a91 H91 => ?_
       clear HS63 H66 a65 H85 a85 H86 a86 H87 a87 H88 a88 H89 a89
       refine htg H91 7 hx84 rfl (wg_ H91 rfl rfl rfl rfl) rfl (v := .agg (bs (encT l))) (fun _ _ HS9 => dd_loadR (HR53_1 _ HS9.below) rfl (H91.ev 7 rfl) (slab_whole _) Tryd.underlying24 rfl (by rw [show (bs (encT l)).size = 32 from ((size_bs _).trans (length_encT _))]; kernel_rfl)) fun a92 H92 => htg H92 8 hx84 rfl (wg_ H92 rfl rfl rfl rfl) rfl (v := .agg (bs (encT m))) (fun _ _ HS9 => dd_loadR (HR53_2 _ HS9.below) rfl (H92.ev 9 rfl) (slab_whole _) Tryd.underlying24 rfl (by rw [show (bs (encT m)).size = 32 from ((size_bs _).trans (length_encT _))]; kernel_rfl)) fun a93 H93 => htg H93 9 hx84 rfl (wg_ H93 rfl rfl rfl rfl) rfl (v := .bool false) (fun _ _ _ => dd_eqa (b := false) rfl (H93.ev 58 rfl) (H93.ev 59 rfl) (by kernel_rfl) (fun w => by have h9 := eql_blk (encT l) (encT m) (length_encT _) (length_encT _) w; rw [hb83] at h9; exact h9)) fun a94 H94 => htg H94 10 hx84 rfl (wg_ H94 rfl rfl rfl rfl) rfl (fun _ _ _ => dd_mv rfl (H94.ev 0 rfl)) fun a95 H95 => htg H95 11 hx84 rfl (wg_ H95 rfl rfl rfl rfl) rfl (fun _ _ _ => dd_mv rfl (H95.ev 1 rfl)) fun a96 H96 => h1_ 12 rfl <| cg H96 (wg_ H96 rfl rfl rfl rfl) rfl HSh84 (v := .bool false) (dc_ Tryd.func16 rfl (args2 (H96.ev 61 rfl) (H96.ev 62 rfl)) (keepvols_any (volL l) (volL m) _ _ _ _ _ _ W63.drew (HVl _ HSh84.below) (HVm _ HSh84.below) (Nat.le_trans hn1 (by decide)) (Nat.le_trans hn3 (by decide)) (vols_lenB hm1)) (fun _ w9 h9 => ⟨_, h9.1, by rw [vols_dec (encE_z.1 hc48) (encE_z.1 hc72), hb83], h9.2⟩)) fun W97 HS97 a97 H97 => sx_ (sxi HS97 [] rfl) fun hx98 => htg H97 13 hx98 rfl (wg_ H97 rfl rfl rfl rfl) rfl (v := .bool false) (fun _ _ _ => dd_neb rfl (H97.ev 60 rfl) (H97.ev 63 rfl) Tryd.underlying4 rfl) fun a99 H99 => ?_
       clear H90 a90 H91 a91 H92 a92 H93 a93 H94 a94 H95 a95 H96 a96 HSh84 hx84
       refine hp_ H99 14 hx98 rfl rfl rfl fun a100 H100 => ?_
       clear H97 a97 H99 a99
       refine wpAnyH_done (by kernel_rfl) ?_ _
       clear hx98
       refine nx <| cf_ H100 rfl <| wp_skip <| nx <| sq_ <| rl_ <| wl_ <| i_ H100 rfl (v := .agg (bs qb)) (dd_loadR (HR53_0 _ HS97.below) rfl (H100.ev 5 rfl) (slab_whole _) Tryd.underlying24 rfl (by rw [show (bs qb).size = 32 from ((size_bs _).trans hqb)]; kernel_rfl)) fun a101 H101 => ?_
       clear H100 a100
       refine wl_ <| d_ H101 rfl (R := fun v w9 => ∃ A103 N103 C103, v = .tuple #[.slice A103 N103 C103, .int .i64 (decE qb)] ∧ ((volL (decLT qb)).length = N103 ∧ N103 ≤ 3) ∧ (OV W97.heap.size w9 (.slice A103 N103 C103) (volL (decLT qb))) ∧ Below W97.heap.size W97 w9) (dc_ Tryd.func12 rfl (args1 (H101.ev 67 rfl)) (dect_any qb W97 hqb) (fun _ w9 ⟨v9, he, ho, hb⟩ => by obtain ⟨A9, n9, c9, rfl, h1, _⟩ := OV.form2 ho; exact ⟨_, he, A9, n9, c9, rfl, ⟨h1, by rw [← h1, len_volL]; exact (decLT_len _)⟩, ho, hb⟩)) ?_
       rintro _ W102 ⟨A103, N103, C103, rfl, hNd103, hov103, hb102⟩ a102 H102
       have HS102 := HS97.same hb102
       clear H101 a101
       have HBs104 : Below W51.heap.size W51 W102 := HS102.below
       have HVlr := fun (W9 : World) (hb9 : Below W102.heap.size W102 W9) => HVl W9 (HBs104.trans (hb9.mono HBs104.size))
       clear HVl
       have HVl := HVlr
       clear HVlr
       have HVmr := fun (W9 : World) (hb9 : Below W102.heap.size W102 W9) => HVm W9 (HBs104.trans (hb9.mono HBs104.size))
       clear HVm
       have HVm := HVmr
       clear HVmr
       have HR53_0r := fun (W9 : World) (hb9 : Below W102.heap.size W102 W9) => HR53_0 W9 (HBs104.trans (hb9.mono HBs104.size))
       clear HR53_0
       have HR53_0 := HR53_0r
       clear HR53_0r
       have HR53_1r := fun (W9 : World) (hb9 : Below W102.heap.size W102 W9) => HR53_1 W9 (HBs104.trans (hb9.mono HBs104.size))
       clear HR53_1
       have HR53_1 := HR53_1r
       clear HR53_1r
       have HR53_2r := fun (W9 : World) (hb9 : Below W102.heap.size W102 W9) => HR53_2 W9 (HBs104.trans (hb9.mono HBs104.size))
       clear HR53_2
       have HR53_2 := HR53_2r
       clear HR53_2r
       have HVd52r := fun (W9 : World) (hb9 : Below W102.heap.size W102 W9) => HVd52 W9 (HBs104.trans (hb9.mono HBs104.size))
       clear HVd52
       have HVd52 := HVd52r
       clear HVd52r
       have HSb104 := St.nil W102 noF
       clear HS102
       have HVd103 := fun (W9 : World) (hb9 : Below W102.heap.size W102 W9) => ((hov103.vols (Nat.le_trans (Nat.le_of_eq hNd103.1) (Nat.le_trans hNd103.2 (by decide)))).below hb9 (Nat.le_refl _))
       have hMd103 := decLT_small qb
       clear HS97 hb102
       refine wl_ <| p_ H102 rfl rfl fun a105 H105 => wl_ <| i_ H105 rfl (dd_ext rfl (H105.ev 66 rfl) rfl) fun a106 H106 => wl_ <| i_ H106 rfl (dd_ext rfl (H106.ev 66 rfl) rfl) fun a107 H107 => q_ H107 2 rfl fun a108 H108 => ln_ <| ?_
       clear H102 a102 H105 a105 H106 a106 H107 a107
       have H109 := H108.sel [5, 13, 14] rfl
       refine nx <| sq_ <| sq_ <| rl_ <| wl_ <| p_ H109 rfl rfl fun a110 H110 => ?_
       clear H108 H109 a108
       by_cases hc112 : (decE qb : Int) = 0
       ·
        refine wl_ <| i_ H110 rfl (dd_cmp rfl (H110.ev 71 rfl) rfl (eq_t hc112)) fun a113 H113 => ln_ <| nx <| ct_ H113 rfl <| sq_ <| rl_ <| wl_ <| p_ H113 rfl rfl fun a114 H114 => wl_ <| c_ H114 rfl HSb104 (v := .tuple #[.agg (bs (encT (decLT qb))), .int .i64 0]) (dc_ Tryd.func10 rfl (args1 (H114.ev 74 rfl)) (enct_any _ _ _ (decLT qb) W102 (HVd103 _ HSb104.below) (Nat.le_trans hNd103.2 (by decide)) (hMd103)) (fun _ w9 h9 => ⟨_, by rw [encE_z.2 (okD_parts (decE_z.1 hc112)).1] at h9; exact h9.1, rfl, h9.2⟩)) fun W115 HS115 a115 H115 => wl_ <| p_ H115 rfl rfl fun a116 H116 => wl_ <| i_ H116 rfl (dd_ext rfl (H116.ev 73 rfl) rfl) fun a117 H117 => wl_ <| i_ H117 rfl (dd_ext rfl (H117.ev 73 rfl) rfl) fun a118 H118 => wl_ <| n_ H118 rfl (fun _ h => dd_new HS115 (bs (zer 32)) rfl (z := .agg (bs (zer 32))) (by kernel_rfl) rfl h) fun g15 W119 HS119 a119 H119 => wl_ <| t_ rfl (fun _ h => dd_setrow HS119 0 rfl rfl (H119.ev 15 rfl) (H119.ev 76 rfl) (by kernel_rfl) (((size_bs _).trans (length_encT _)) : (bs (encT (decLT qb))).size = 32) (((size_bs _).trans (length_zer 32)) : (bs (zer 32)).size = 32) (one_bs _) h) fun W120 HS120 => ?_
        clear H110 a110 H113 a113 H114 a114 HSb104 H115 a115 H116 a116 H117 a117 HS115 H118 a118
        refine wl_ <| p_ H119 rfl rfl fun a121 H121 => ln_ <| nx <| sq_ <| rl_ <| wl_ <| p_ H121 rfl rfl fun a122 H122 => wl_ <| i_ H122 rfl (dd_cmp rfl (H122.ev 78 rfl) rfl (ne_f (by decide))) fun a123 H123 => wl_ <| p_ H123 rfl rfl fun a124 H124 => wl_ <| ig H124 (wg_ H124 rfl rfl rfl rfl) rfl (v := .agg (bs (encT (decLT qb)))) (dd_load HS120 0 0 rfl rfl (H124.ev 15 rfl) (slab_whole _) Tryd.underlying24 rfl (by rw [show (bs (encT (decLT qb))).size = 32 from ((size_bs _).trans (length_encT _))]; kernel_rfl)) fun a125 H125 => wl_ <| ig H125 (wg_ H125 rfl rfl rfl rfl) rfl (v := .agg (bs qb)) (dd_loadR (HR53_0 _ HS120.below) rfl (H125.ev 5 rfl) (slab_whole _) Tryd.underlying24 rfl (by rw [show (bs qb).size = 32 from ((size_bs _).trans hqb)]; kernel_rfl)) fun a126 H126 => wl_ <| ig H126 (wg_ H126 rfl rfl rfl rfl) rfl (v := .bool false) (dd_nea (b := true) rfl (H126.ev 81 rfl) (H126.ev 82 rfl) (by kernel_rfl) (fun w => by have h9 := eql_blk (encT (decLT qb)) qb (length_encT _) hqb w; rw [decide_eq_true (okD_parts (decE_z.1 hc112)).2] at h9; exact h9) rfl) fun a127 H127 => q_ H127 2 rfl fun a128 H128 => ?_
        clear HS119 H119 a119 H121 a121 H122 a122 H123 a123 H124 a124 H125 a125 H126 a126
        refine wl_ <| ig H128 (wg_ H128 rfl rfl rfl rfl) rfl (dd_mv rfl (H128.ev 13 rfl)) fun a129 H129 => wl_ <| cg H129 (wg_ H129 rfl rfl rfl rfl) rfl HS120 (v := .bool true) (dc_ Tryd.func14 rfl (args1 (H129.ev 86 rfl)) (goodt_any _ _ _ (decLT qb) W120 (HVd103 _ HS120.below) (Nat.le_trans hNd103.2 (by decide)) (hMd103)) (fun _ w9 h9 => ⟨_, h9.1, by rw [(okD_parts (decE_z.1 hc112)).1], h9.2⟩)) fun W130 HS130 a130 H130 => wl_ <| ig H130 (wg_ H130 rfl rfl rfl rfl) rfl (v := .bool false) (dd_nt rfl (H130.ev 87 rfl) rfl) fun a131 H131 => wl_ <| p_ H131 rfl rfl fun a132 H132 => ln_ <| ?_
        clear H127 a127 H128 a128 H129 a129 HS120 H130 a130 H131 a131
        have H133 := H132.sel [89] rfl
        refine nx <| cf_ H133 rfl <| wp_skip <| nx <| sq_ <| rl_ <| wl_ <| c_ H133 rfl HS130 (dcs Tryd.func8 rfl (args0 ) (tabwakes_any W130) (.bool true)) fun W134 HS134 a134 H134 => wl_ <| p_ H134 rfl rfl fun a135 H135 => ln_ <| nx <| wp_ret <| ret_run H135.env0 (res_t Tryd.results4 (H135.get 6 rfl)) <| ?_
        clear H132 H133 a132 HS130 H134 a134
        exact ⟨rfl, (HBs53.trans ((HBs104.trans (HS134.below.mono HBs104.size)).mono HBs53.size))⟩
       ·
        refine wl_ <| i_ H110 rfl (dd_cmp rfl (H110.ev 71 rfl) rfl (eq_f hc112)) fun a136 H136 => ln_ <| nx <| cf_ H136 rfl <| wp_skip <| nx <| sq_ <| rl_ <| wl_ <| c_ H136 rfl HSb104 (dcs Tryd.func8 rfl (args0 ) (tabwakes_any W102) (.bool true)) fun W137 HS137 a137 H137 => wl_ <| p_ H137 rfl rfl fun a138 H138 => ln_ <| nx <| wp_ret <| ret_run H138.env0 (res_t Tryd.results4 (H138.get 6 rfl)) <| ?_
        clear H110 a110 H136 a136 HSb104 H137 a137
        exact ⟨rfl, (HBs53.trans ((HBs104.trans (HS137.below.mono HBs104.size)).mono HBs53.size))⟩
      case true =>
       refine wi_ HS63 [] rfl [] rfl fun HSh139 hx139 => hp_ H66 0 hx139 rfl rfl rfl fun a140 H140 => ht_ H140 1 hx139 rfl rfl (fun _ _ _ => dd_cmp rfl (H140.ev 51 rfl) rfl (eq_t hc48)) fun a141 H141 => hp_ H141 2 hx139 rfl rfl rfl fun a142 H142 => htg H142 3 hx139 rfl (wg_ H142 rfl rfl rfl rfl) rfl (fun _ _ _ => dd_mv rfl (H142.ev 10 rfl)) fun a143 H143 => htg H143 4 hx139 rfl (wg_ H143 rfl rfl rfl rfl) rfl (fun _ _ _ => dd_cmp rfl (H143.ev 54 rfl) rfl (eq_t hc72)) fun a144 H144 => hp_ H144 5 hx139 rfl rfl rfl fun a145 H145 => hp_ H145 6 hx139 rfl rfl rfl fun a146 H146 => ?_
       clear HS63 H66 a65 H140 a140 H141 a141 H142 a142 H143 a143 H144 a144
       refine htg H146 7 hx139 rfl (wg_ H146 rfl rfl rfl rfl) rfl (v := .agg (bs (encT l))) (fun _ _ HS9 => dd_loadR (HR53_1 _ HS9.below) rfl (H146.ev 7 rfl) (slab_whole _) Tryd.underlying24 rfl (by rw [show (bs (encT l)).size = 32 from ((size_bs _).trans (length_encT _))]; kernel_rfl)) fun a147 H147 => htg H147 8 hx139 rfl (wg_ H147 rfl rfl rfl rfl) rfl (v := .agg (bs (encT m))) (fun _ _ HS9 => dd_loadR (HR53_2 _ HS9.below) rfl (H147.ev 9 rfl) (slab_whole _) Tryd.underlying24 rfl (by rw [show (bs (encT m)).size = 32 from ((size_bs _).trans (length_encT _))]; kernel_rfl)) fun a148 H148 => htg H148 9 hx139 rfl (wg_ H148 rfl rfl rfl rfl) rfl (v := .bool true) (fun _ _ _ => dd_eqa (b := true) rfl (H148.ev 58 rfl) (H148.ev 59 rfl) (by kernel_rfl) (fun w => by have h9 := eql_blk (encT l) (encT m) (length_encT _) (length_encT _) w; rw [hb83] at h9; exact h9)) fun a149 H149 => htg H149 10 hx139 rfl (wg_ H149 rfl rfl rfl rfl) rfl (fun _ _ _ => dd_mv rfl (H149.ev 0 rfl)) fun a150 H150 => htg H150 11 hx139 rfl (wg_ H150 rfl rfl rfl rfl) rfl (fun _ _ _ => dd_mv rfl (H150.ev 1 rfl)) fun a151 H151 => h1_ 12 rfl <| cg H151 (wg_ H151 rfl rfl rfl rfl) rfl HSh139 (v := .bool true) (dc_ Tryd.func16 rfl (args2 (H151.ev 61 rfl) (H151.ev 62 rfl)) (keepvols_any (volL l) (volL m) _ _ _ _ _ _ W63.drew (HVl _ HSh139.below) (HVm _ HSh139.below) (Nat.le_trans hn1 (by decide)) (Nat.le_trans hn3 (by decide)) (vols_lenB hm1)) (fun _ w9 h9 => ⟨_, h9.1, by rw [vols_dec (encE_z.1 hc48) (encE_z.1 hc72), hb83], h9.2⟩)) fun W152 HS152 a152 H152 => sx_ (sxi HS152 [] rfl) fun hx153 => htg H152 13 hx153 rfl (wg_ H152 rfl rfl rfl rfl) rfl (v := .bool false) (fun _ _ _ => dd_neb rfl (H152.ev 60 rfl) (H152.ev 63 rfl) Tryd.underlying4 rfl) fun a154 H154 => ?_
       clear H145 a145 H146 a146 H147 a147 H148 a148 H149 a149 H150 a150 H151 a151 HSh139 hx139
       refine hp_ H154 14 hx153 rfl rfl rfl fun a155 H155 => ?_
       clear H152 a152 H154 a154
       refine wpAnyH_done (by kernel_rfl) ?_ _
       clear hx153
       refine nx <| cf_ H155 rfl <| wp_skip <| nx <| sq_ <| rl_ <| wl_ <| i_ H155 rfl (v := .agg (bs qb)) (dd_loadR (HR53_0 _ HS152.below) rfl (H155.ev 5 rfl) (slab_whole _) Tryd.underlying24 rfl (by rw [show (bs qb).size = 32 from ((size_bs _).trans hqb)]; kernel_rfl)) fun a156 H156 => ?_
       clear H155 a155
       refine wl_ <| d_ H156 rfl (R := fun v w9 => ∃ A158 N158 C158, v = .tuple #[.slice A158 N158 C158, .int .i64 (decE qb)] ∧ ((volL (decLT qb)).length = N158 ∧ N158 ≤ 3) ∧ (OV W152.heap.size w9 (.slice A158 N158 C158) (volL (decLT qb))) ∧ Below W152.heap.size W152 w9) (dc_ Tryd.func12 rfl (args1 (H156.ev 67 rfl)) (dect_any qb W152 hqb) (fun _ w9 ⟨v9, he, ho, hb⟩ => by obtain ⟨A9, n9, c9, rfl, h1, _⟩ := OV.form2 ho; exact ⟨_, he, A9, n9, c9, rfl, ⟨h1, by rw [← h1, len_volL]; exact (decLT_len _)⟩, ho, hb⟩)) ?_
       rintro _ W157 ⟨A158, N158, C158, rfl, hNd158, hov158, hb157⟩ a157 H157
       have HS157 := HS152.same hb157
       clear H156 a156
       have HBs159 : Below W51.heap.size W51 W157 := HS157.below
       have HVlr := fun (W9 : World) (hb9 : Below W157.heap.size W157 W9) => HVl W9 (HBs159.trans (hb9.mono HBs159.size))
       clear HVl
       have HVl := HVlr
       clear HVlr
       have HVmr := fun (W9 : World) (hb9 : Below W157.heap.size W157 W9) => HVm W9 (HBs159.trans (hb9.mono HBs159.size))
       clear HVm
       have HVm := HVmr
       clear HVmr
       have HR53_0r := fun (W9 : World) (hb9 : Below W157.heap.size W157 W9) => HR53_0 W9 (HBs159.trans (hb9.mono HBs159.size))
       clear HR53_0
       have HR53_0 := HR53_0r
       clear HR53_0r
       have HR53_1r := fun (W9 : World) (hb9 : Below W157.heap.size W157 W9) => HR53_1 W9 (HBs159.trans (hb9.mono HBs159.size))
       clear HR53_1
       have HR53_1 := HR53_1r
       clear HR53_1r
       have HR53_2r := fun (W9 : World) (hb9 : Below W157.heap.size W157 W9) => HR53_2 W9 (HBs159.trans (hb9.mono HBs159.size))
       clear HR53_2
       have HR53_2 := HR53_2r
       clear HR53_2r
       have HVd52r := fun (W9 : World) (hb9 : Below W157.heap.size W157 W9) => HVd52 W9 (HBs159.trans (hb9.mono HBs159.size))
       clear HVd52
       have HVd52 := HVd52r
       clear HVd52r
       have HSb159 := St.nil W157 noF
       clear HS157
       have HVd158 := fun (W9 : World) (hb9 : Below W157.heap.size W157 W9) => ((hov158.vols (Nat.le_trans (Nat.le_of_eq hNd158.1) (Nat.le_trans hNd158.2 (by decide)))).below hb9 (Nat.le_refl _))
       have hMd158 := decLT_small qb
       clear HS152 hb157
       refine wl_ <| p_ H157 rfl rfl fun a160 H160 => wl_ <| i_ H160 rfl (dd_ext rfl (H160.ev 66 rfl) rfl) fun a161 H161 => wl_ <| i_ H161 rfl (dd_ext rfl (H161.ev 66 rfl) rfl) fun a162 H162 => q_ H162 2 rfl fun a163 H163 => ln_ <| ?_
       clear H157 a157 H160 a160 H161 a161 H162 a162
       have H164 := H163.sel [5, 13, 14] rfl
       refine nx <| sq_ <| sq_ <| rl_ <| wl_ <| p_ H164 rfl rfl fun a165 H165 => ?_
       clear H163 H164 a163
       by_cases hc167 : (decE qb : Int) = 0
       ·
        refine wl_ <| i_ H165 rfl (dd_cmp rfl (H165.ev 71 rfl) rfl (eq_t hc167)) fun a168 H168 => ln_ <| nx <| ct_ H168 rfl <| sq_ <| rl_ <| wl_ <| p_ H168 rfl rfl fun a169 H169 => wl_ <| c_ H169 rfl HSb159 (v := .tuple #[.agg (bs (encT (decLT qb))), .int .i64 0]) (dc_ Tryd.func10 rfl (args1 (H169.ev 74 rfl)) (enct_any _ _ _ (decLT qb) W157 (HVd158 _ HSb159.below) (Nat.le_trans hNd158.2 (by decide)) (hMd158)) (fun _ w9 h9 => ⟨_, by rw [encE_z.2 (okD_parts (decE_z.1 hc167)).1] at h9; exact h9.1, rfl, h9.2⟩)) fun W170 HS170 a170 H170 => wl_ <| p_ H170 rfl rfl fun a171 H171 => wl_ <| i_ H171 rfl (dd_ext rfl (H171.ev 73 rfl) rfl) fun a172 H172 => wl_ <| i_ H172 rfl (dd_ext rfl (H172.ev 73 rfl) rfl) fun a173 H173 => wl_ <| n_ H173 rfl (fun _ h => dd_new HS170 (bs (zer 32)) rfl (z := .agg (bs (zer 32))) (by kernel_rfl) rfl h) fun g15 W174 HS174 a174 H174 => wl_ <| t_ rfl (fun _ h => dd_setrow HS174 0 rfl rfl (H174.ev 15 rfl) (H174.ev 76 rfl) (by kernel_rfl) (((size_bs _).trans (length_encT _)) : (bs (encT (decLT qb))).size = 32) (((size_bs _).trans (length_zer 32)) : (bs (zer 32)).size = 32) (one_bs _) h) fun W175 HS175 => ?_
        clear H165 a165 H168 a168 H169 a169 HSb159 H170 a170 H171 a171 H172 a172 HS170 H173 a173
        refine wl_ <| p_ H174 rfl rfl fun a176 H176 => ln_ <| nx <| sq_ <| rl_ <| wl_ <| p_ H176 rfl rfl fun a177 H177 => wl_ <| i_ H177 rfl (dd_cmp rfl (H177.ev 78 rfl) rfl (ne_f (by decide))) fun a178 H178 => wl_ <| p_ H178 rfl rfl fun a179 H179 => wl_ <| ig H179 (wg_ H179 rfl rfl rfl rfl) rfl (v := .agg (bs (encT (decLT qb)))) (dd_load HS175 0 0 rfl rfl (H179.ev 15 rfl) (slab_whole _) Tryd.underlying24 rfl (by rw [show (bs (encT (decLT qb))).size = 32 from ((size_bs _).trans (length_encT _))]; kernel_rfl)) fun a180 H180 => wl_ <| ig H180 (wg_ H180 rfl rfl rfl rfl) rfl (v := .agg (bs qb)) (dd_loadR (HR53_0 _ HS175.below) rfl (H180.ev 5 rfl) (slab_whole _) Tryd.underlying24 rfl (by rw [show (bs qb).size = 32 from ((size_bs _).trans hqb)]; kernel_rfl)) fun a181 H181 => wl_ <| ig H181 (wg_ H181 rfl rfl rfl rfl) rfl (v := .bool false) (dd_nea (b := true) rfl (H181.ev 81 rfl) (H181.ev 82 rfl) (by kernel_rfl) (fun w => by have h9 := eql_blk (encT (decLT qb)) qb (length_encT _) hqb w; rw [decide_eq_true (okD_parts (decE_z.1 hc167)).2] at h9; exact h9) rfl) fun a182 H182 => q_ H182 2 rfl fun a183 H183 => ?_
        clear HS174 H174 a174 H176 a176 H177 a177 H178 a178 H179 a179 H180 a180 H181 a181
        refine wl_ <| ig H183 (wg_ H183 rfl rfl rfl rfl) rfl (dd_mv rfl (H183.ev 13 rfl)) fun a184 H184 => wl_ <| cg H184 (wg_ H184 rfl rfl rfl rfl) rfl HS175 (v := .bool true) (dc_ Tryd.func14 rfl (args1 (H184.ev 86 rfl)) (goodt_any _ _ _ (decLT qb) W175 (HVd158 _ HS175.below) (Nat.le_trans hNd158.2 (by decide)) (hMd158)) (fun _ w9 h9 => ⟨_, h9.1, by rw [(okD_parts (decE_z.1 hc167)).1], h9.2⟩)) fun W185 HS185 a185 H185 => wl_ <| ig H185 (wg_ H185 rfl rfl rfl rfl) rfl (v := .bool false) (dd_nt rfl (H185.ev 87 rfl) rfl) fun a186 H186 => wl_ <| p_ H186 rfl rfl fun a187 H187 => ln_ <| ?_
        clear H182 a182 H183 a183 H184 a184 HS175 H185 a185 H186 a186
        have H188 := H187.sel [89] rfl
        refine nx <| cf_ H188 rfl <| wp_skip <| nx <| sq_ <| rl_ <| wl_ <| c_ H188 rfl HS185 (dcs Tryd.func8 rfl (args0 ) (tabwakes_any W185) (.bool true)) fun W189 HS189 a189 H189 => wl_ <| p_ H189 rfl rfl fun a190 H190 => ln_ <| nx <| wp_ret <| ret_run H190.env0 (res_t Tryd.results4 (H190.get 6 rfl)) <| ?_
        clear H187 H188 a187 HS185 H189 a189
        exact ⟨rfl, (HBs53.trans ((HBs159.trans (HS189.below.mono HBs159.size)).mono HBs53.size))⟩
       ·
        refine wl_ <| i_ H165 rfl (dd_cmp rfl (H165.ev 71 rfl) rfl (eq_f hc167)) fun a191 H191 => ln_ <| nx <| cf_ H191 rfl <| wp_skip <| nx <| sq_ <| rl_ <| wl_ <| c_ H191 rfl HSb159 (dcs Tryd.func8 rfl (args0 ) (tabwakes_any W157) (.bool true)) fun W192 HS192 a192 H192 => wl_ <| p_ H192 rfl rfl fun a193 H193 => ln_ <| nx <| wp_ret <| ret_run H193.env0 (res_t Tryd.results4 (H193.get 6 rfl)) <| ?_
        clear H165 a165 H191 a191 HSb159 H192 a192
        exact ⟨rfl, (HBs53.trans ((HBs159.trans (HS192.below.mono HBs159.size)).mono HBs53.size))⟩
     ·
      refine wi_ HS63 [] rfl [] rfl fun HSh194 hx194 => hp_ H66 0 hx194 rfl rfl rfl fun a195 H195 => ht_ H195 1 hx194 rfl rfl (fun _ _ _ => dd_cmp rfl (H195.ev 51 rfl) rfl (eq_t hc48)) fun a196 H196 => hp_ H196 2 hx194 rfl rfl rfl fun a197 H197 => htg H197 3 hx194 rfl (wg_ H197 rfl rfl rfl rfl) rfl (fun _ _ _ => dd_mv rfl (H197.ev 10 rfl)) fun a198 H198 => htg H198 4 hx194 rfl (wg_ H198 rfl rfl rfl rfl) rfl (fun _ _ _ => dd_cmp rfl (H198.ev 54 rfl) rfl (eq_f hc72)) fun a199 H199 => hp_ H199 5 hx194 rfl rfl rfl fun a200 H200 => hp_ H200 6 hx194 rfl rfl rfl fun a201 H201 => ?_
      clear HS63 H66 a65 H195 a195 H196 a196 H197 a197 H198 a198 H199 a199
      refine hk_ H201 7 hx194 rfl (wg_ H201 rfl rfl rfl rfl) rfl fun a202 H202 => hk_ H202 8 hx194 rfl (wg_ H202 rfl rfl rfl rfl) rfl fun a203 H203 => hk_ H203 9 hx194 rfl (wg_ H203 rfl rfl rfl rfl) rfl fun a204 H204 => hk_ H204 10 hx194 rfl (wg_ H204 rfl rfl rfl rfl) rfl fun a205 H205 => hk_ H205 11 hx194 rfl (wg_ H205 rfl rfl rfl rfl) rfl fun a206 H206 => hk_ H206 12 hx194 rfl (wg_ H206 rfl rfl rfl rfl) rfl fun a207 H207 => hk_ H207 13 hx194 rfl (wg_ H207 rfl rfl rfl rfl) rfl fun a208 H208 => hp_ H208 14 hx194 rfl rfl rfl fun a209 H209 => ?_
      clear H200 a200 H201 a201 H202 a202 H203 a203 H204 a204 H205 a205 H206 a206 H207 a207
      clear H208 a208
      refine wpAnyH_done (by kernel_rfl) ?_ _
      clear hx194
      refine nx <| cf_ H209 rfl <| wp_skip <| nx <| sq_ <| rl_ <| wl_ <| i_ H209 rfl (v := .agg (bs qb)) (dd_loadR (HR53_0 _ HSh194.below) rfl (H209.ev 5 rfl) (slab_whole _) Tryd.underlying24 rfl (by rw [show (bs qb).size = 32 from ((size_bs _).trans hqb)]; kernel_rfl)) fun a210 H210 => ?_
      clear H209 a209
      refine wl_ <| d_ H210 rfl (R := fun v w9 => ∃ A212 N212 C212, v = .tuple #[.slice A212 N212 C212, .int .i64 (decE qb)] ∧ ((volL (decLT qb)).length = N212 ∧ N212 ≤ 3) ∧ (OV W63.drew.heap.size w9 (.slice A212 N212 C212) (volL (decLT qb))) ∧ Below W63.drew.heap.size W63.drew w9) (dc_ Tryd.func12 rfl (args1 (H210.ev 67 rfl)) (dect_any qb W63.drew hqb) (fun _ w9 ⟨v9, he, ho, hb⟩ => by obtain ⟨A9, n9, c9, rfl, h1, _⟩ := OV.form2 ho; exact ⟨_, he, A9, n9, c9, rfl, ⟨h1, by rw [← h1, len_volL]; exact (decLT_len _)⟩, ho, hb⟩)) ?_
      rintro _ W211 ⟨A212, N212, C212, rfl, hNd212, hov212, hb211⟩ a211 H211
      have HS211 := HSh194.same hb211
      clear H210 a210
      have HBs213 : Below W51.heap.size W51 W211 := HS211.below
      have HVlr := fun (W9 : World) (hb9 : Below W211.heap.size W211 W9) => HVl W9 (HBs213.trans (hb9.mono HBs213.size))
      clear HVl
      have HVl := HVlr
      clear HVlr
      have HVmr := fun (W9 : World) (hb9 : Below W211.heap.size W211 W9) => HVm W9 (HBs213.trans (hb9.mono HBs213.size))
      clear HVm
      have HVm := HVmr
      clear HVmr
      have HR53_0r := fun (W9 : World) (hb9 : Below W211.heap.size W211 W9) => HR53_0 W9 (HBs213.trans (hb9.mono HBs213.size))
      clear HR53_0
      have HR53_0 := HR53_0r
      clear HR53_0r
      have HR53_1r := fun (W9 : World) (hb9 : Below W211.heap.size W211 W9) => HR53_1 W9 (HBs213.trans (hb9.mono HBs213.size))
      clear HR53_1
      have HR53_1 := HR53_1r
      clear HR53_1r
      have HR53_2r := fun (W9 : World) (hb9 : Below W211.heap.size W211 W9) => HR53_2 W9 (HBs213.trans (hb9.mono HBs213.size))
      clear HR53_2
      have HR53_2 := HR53_2r
      clear HR53_2r
      have HVd52r := fun (W9 : World) (hb9 : Below W211.heap.size W211 W9) => HVd52 W9 (HBs213.trans (hb9.mono HBs213.size))
      clear HVd52
      have HVd52 := HVd52r
      clear HVd52r
      have HSb213 := St.nil W211 noF
      clear HS211
      have HVd212 := fun (W9 : World) (hb9 : Below W211.heap.size W211 W9) => ((hov212.vols (Nat.le_trans (Nat.le_of_eq hNd212.1) (Nat.le_trans hNd212.2 (by decide)))).below hb9 (Nat.le_refl _))
      have hMd212 := decLT_small qb
      clear HSh194 hb211
      refine wl_ <| p_ H211 rfl rfl fun a214 H214 => wl_ <| i_ H214 rfl (dd_ext rfl (H214.ev 66 rfl) rfl) fun a215 H215 => wl_ <| i_ H215 rfl (dd_ext rfl (H215.ev 66 rfl) rfl) fun a216 H216 => q_ H216 2 rfl fun a217 H217 => ln_ <| ?_
      clear H211 a211 H214 a214 H215 a215 H216 a216
      have H218 := H217.sel [5, 13, 14] rfl
      refine nx <| sq_ <| sq_ <| rl_ <| wl_ <| p_ H218 rfl rfl fun a219 H219 => ?_
      clear H217 H218 a217
      by_cases hc221 : (decE qb : Int) = 0
      ·
       refine wl_ <| i_ H219 rfl (dd_cmp rfl (H219.ev 71 rfl) rfl (eq_t hc221)) fun a222 H222 => ln_ <| nx <| ct_ H222 rfl <| sq_ <| rl_ <| wl_ <| p_ H222 rfl rfl fun a223 H223 => wl_ <| c_ H223 rfl HSb213 (v := .tuple #[.agg (bs (encT (decLT qb))), .int .i64 0]) (dc_ Tryd.func10 rfl (args1 (H223.ev 74 rfl)) (enct_any _ _ _ (decLT qb) W211 (HVd212 _ HSb213.below) (Nat.le_trans hNd212.2 (by decide)) (hMd212)) (fun _ w9 h9 => ⟨_, by rw [encE_z.2 (okD_parts (decE_z.1 hc221)).1] at h9; exact h9.1, rfl, h9.2⟩)) fun W224 HS224 a224 H224 => wl_ <| p_ H224 rfl rfl fun a225 H225 => wl_ <| i_ H225 rfl (dd_ext rfl (H225.ev 73 rfl) rfl) fun a226 H226 => wl_ <| i_ H226 rfl (dd_ext rfl (H226.ev 73 rfl) rfl) fun a227 H227 => wl_ <| n_ H227 rfl (fun _ h => dd_new HS224 (bs (zer 32)) rfl (z := .agg (bs (zer 32))) (by kernel_rfl) rfl h) fun g15 W228 HS228 a228 H228 => wl_ <| t_ rfl (fun _ h => dd_setrow HS228 0 rfl rfl (H228.ev 15 rfl) (H228.ev 76 rfl) (by kernel_rfl) (((size_bs _).trans (length_encT _)) : (bs (encT (decLT qb))).size = 32) (((size_bs _).trans (length_zer 32)) : (bs (zer 32)).size = 32) (one_bs _) h) fun W229 HS229 => ?_
       clear H219 a219 H222 a222 H223 a223 HSb213 H224 a224 H225 a225 H226 a226 HS224 H227 a227
       refine wl_ <| p_ H228 rfl rfl fun a230 H230 => ln_ <| nx <| sq_ <| rl_ <| wl_ <| p_ H230 rfl rfl fun a231 H231 => wl_ <| i_ H231 rfl (dd_cmp rfl (H231.ev 78 rfl) rfl (ne_f (by decide))) fun a232 H232 => wl_ <| p_ H232 rfl rfl fun a233 H233 => wl_ <| ig H233 (wg_ H233 rfl rfl rfl rfl) rfl (v := .agg (bs (encT (decLT qb)))) (dd_load HS229 0 0 rfl rfl (H233.ev 15 rfl) (slab_whole _) Tryd.underlying24 rfl (by rw [show (bs (encT (decLT qb))).size = 32 from ((size_bs _).trans (length_encT _))]; kernel_rfl)) fun a234 H234 => wl_ <| ig H234 (wg_ H234 rfl rfl rfl rfl) rfl (v := .agg (bs qb)) (dd_loadR (HR53_0 _ HS229.below) rfl (H234.ev 5 rfl) (slab_whole _) Tryd.underlying24 rfl (by rw [show (bs qb).size = 32 from ((size_bs _).trans hqb)]; kernel_rfl)) fun a235 H235 => wl_ <| ig H235 (wg_ H235 rfl rfl rfl rfl) rfl (v := .bool false) (dd_nea (b := true) rfl (H235.ev 81 rfl) (H235.ev 82 rfl) (by kernel_rfl) (fun w => by have h9 := eql_blk (encT (decLT qb)) qb (length_encT _) hqb w; rw [decide_eq_true (okD_parts (decE_z.1 hc221)).2] at h9; exact h9) rfl) fun a236 H236 => q_ H236 2 rfl fun a237 H237 => ?_
       clear HS228 H228 a228 H230 a230 H231 a231 H232 a232 H233 a233 H234 a234 H235 a235
       refine wl_ <| ig H237 (wg_ H237 rfl rfl rfl rfl) rfl (dd_mv rfl (H237.ev 13 rfl)) fun a238 H238 => wl_ <| cg H238 (wg_ H238 rfl rfl rfl rfl) rfl HS229 (v := .bool true) (dc_ Tryd.func14 rfl (args1 (H238.ev 86 rfl)) (goodt_any _ _ _ (decLT qb) W229 (HVd212 _ HS229.below) (Nat.le_trans hNd212.2 (by decide)) (hMd212)) (fun _ w9 h9 => ⟨_, h9.1, by rw [(okD_parts (decE_z.1 hc221)).1], h9.2⟩)) fun W239 HS239 a239 H239 => wl_ <| ig H239 (wg_ H239 rfl rfl rfl rfl) rfl (v := .bool false) (dd_nt rfl (H239.ev 87 rfl) rfl) fun a240 H240 => wl_ <| p_ H240 rfl rfl fun a241 H241 => ln_ <| ?_
       clear H236 a236 H237 a237 H238 a238 HS229 H239 a239 H240 a240
       have H242 := H241.sel [89] rfl
       refine nx <| cf_ H242 rfl <| wp_skip <| nx <| sq_ <| rl_ <| wl_ <| c_ H242 rfl HS239 (dcs Tryd.func8 rfl (args0 ) (tabwakes_any W239) (.bool true)) fun W243 HS243 a243 H243 => wl_ <| p_ H243 rfl rfl fun a244 H244 => ln_ <| nx <| wp_ret <| ret_run H244.env0 (res_t Tryd.results4 (H244.get 6 rfl)) <| ?_
       clear H241 H242 a241 HS239 H243 a243
       exact ⟨rfl, (HBs53.trans ((HBs213.trans (HS243.below.mono HBs213.size)).mono HBs53.size))⟩
      ·
       refine wl_ <| i_ H219 rfl (dd_cmp rfl (H219.ev 71 rfl) rfl (eq_f hc221)) fun a245 H245 => ln_ <| nx <| cf_ H245 rfl <| wp_skip <| nx <| sq_ <| rl_ <| wl_ <| c_ H245 rfl HSb213 (dcs Tryd.func8 rfl (args0 ) (tabwakes_any W211) (.bool true)) fun W246 HS246 a246 H246 => wl_ <| p_ H246 rfl rfl fun a247 H247 => ln_ <| nx <| wp_ret <| ret_run H247.env0 (res_t Tryd.results4 (H247.get 6 rfl)) <| ?_
       clear H219 a219 H245 a245 HSb213 H246 a246
       exact ⟨rfl, (HBs53.trans ((HBs213.trans (HS246.below.mono HBs213.size)).mono HBs53.size))⟩
    ·
     refine wl_ <| i_ H46 rfl (dd_cmp rfl (H46.ev 36 rfl) rfl (eq_f hc48)) fun a248 H248 => ln_ <| nx <| cf_ H248 rfl <| wp_skip <| nx <| sq_ <| sq_ <| ?_
     clear H46 a46
     refine wi_ HS43 [0, 1, 2] rfl [0, 1, 2] rfl fun HSh249 hx249 => hp_ H248 0 hx249 rfl rfl rfl fun a250 H250 => ht_ H250 1 hx249 rfl rfl (fun _ _ _ => dd_cmp rfl (H250.ev 51 rfl) rfl (eq_f hc48)) fun a251 H251 => hp_ H251 2 hx249 rfl rfl rfl fun a252 H252 => hk_ H252 3 hx249 rfl (wg_ H252 rfl rfl rfl rfl) rfl fun a253 H253 => hk_ H253 4 hx249 rfl (wg_ H253 rfl rfl rfl rfl) rfl fun a254 H254 => hp_ H254 5 hx249 rfl rfl rfl fun a255 H255 => hp_ H255 6 hx249 rfl rfl rfl fun a256 H256 => ?_
     clear HS43 H248 a248 H250 a250 H251 a251 H252 a252 H253 a253 H254 a254
     refine hk_ H256 7 hx249 rfl (wg_ H256 rfl rfl rfl rfl) rfl fun a257 H257 => hk_ H257 8 hx249 rfl (wg_ H257 rfl rfl rfl rfl) rfl fun a258 H258 => hk_ H258 9 hx249 rfl (wg_ H258 rfl rfl rfl rfl) rfl fun a259 H259 => hk_ H259 10 hx249 rfl (wg_ H259 rfl rfl rfl rfl) rfl fun a260 H260 => hk_ H260 11 hx249 rfl (wg_ H260 rfl rfl rfl rfl) rfl fun a261 H261 => hk_ H261 12 hx249 rfl (wg_ H261 rfl rfl rfl rfl) rfl fun a262 H262 => hk_ H262 13 hx249 rfl (wg_ H262 rfl rfl rfl rfl) rfl fun a263 H263 => hp_ H263 14 hx249 rfl rfl rfl fun a264 H264 => ?_
     clear H255 a255 H256 a256 H257 a257 H258 a258 H259 a259 H260 a260 H261 a261 H262 a262
     clear H263 a263
     refine wpAnyH_done (by kernel_rfl) ?_ _
     clear hx249
     refine nx <| cf_ H264 rfl <| wp_skip <| nx <| sq_ <| rl_ <| wl_ <| i_ H264 rfl (v := .agg (bs qb)) (dd_load HSh249 0 0 rfl rfl (H264.ev 5 rfl) (slab_whole _) Tryd.underlying24 rfl (by rw [show (bs qb).size = 32 from ((size_bs _).trans hqb)]; kernel_rfl)) fun a265 H265 => ?_
     clear H264 a264
     refine wl_ <| d_ H265 rfl (R := fun v w9 => ∃ A267 N267 C267, v = .tuple #[.slice A267 N267 C267, .int .i64 (decE qb)] ∧ ((volL (decLT qb)).length = N267 ∧ N267 ≤ 3) ∧ (OV W43.drew.heap.size w9 (.slice A267 N267 C267) (volL (decLT qb))) ∧ Below W43.drew.heap.size W43.drew w9) (dc_ Tryd.func12 rfl (args1 (H265.ev 67 rfl)) (dect_any qb W43.drew hqb) (fun _ w9 ⟨v9, he, ho, hb⟩ => by obtain ⟨A9, n9, c9, rfl, h1, _⟩ := OV.form2 ho; exact ⟨_, he, A9, n9, c9, rfl, ⟨h1, by rw [← h1, len_volL]; exact (decLT_len _)⟩, ho, hb⟩)) ?_
     rintro _ W266 ⟨A267, N267, C267, rfl, hNd267, hov267, hb266⟩ a266 H266
     have HS266 := HSh249.same hb266
     clear H265 a265
     have HBs268 : Below w.heap.size w W266 := HS266.below
     have HVlr := fun (W9 : World) (hb9 : Below W266.heap.size W266 W9) => HVl W9 (HBs268.trans (hb9.mono HBs268.size))
     clear HVl
     have HVl := HVlr
     clear HVlr
     have HVmr := fun (W9 : World) (hb9 : Below W266.heap.size W266 W9) => HVm W9 (HBs268.trans (hb9.mono HBs268.size))
     clear HVm
     have HVm := HVmr
     clear HVmr
     have HR268_0 := fun (W9 : World) (hb9 : Below W266.heap.size W266 W9) => (HS266.row 0 rfl).call hb9
     have HR268_1 := fun (W9 : World) (hb9 : Below W266.heap.size W266 W9) => (HS266.row 1 rfl).call hb9
     have HR268_2 := fun (W9 : World) (hb9 : Below W266.heap.size W266 W9) => (HS266.row 2 rfl).call hb9
     have HSb268 := St.nil W266 noF
     clear HS266
     have HVd267 := fun (W9 : World) (hb9 : Below W266.heap.size W266 W9) => ((hov267.vols (Nat.le_trans (Nat.le_of_eq hNd267.1) (Nat.le_trans hNd267.2 (by decide)))).below hb9 (Nat.le_refl _))
     have hMd267 := decLT_small qb
     clear HSh249 hb266
     refine wl_ <| p_ H266 rfl rfl fun a269 H269 => wl_ <| i_ H269 rfl (dd_ext rfl (H269.ev 66 rfl) rfl) fun a270 H270 => wl_ <| i_ H270 rfl (dd_ext rfl (H270.ev 66 rfl) rfl) fun a271 H271 => q_ H271 2 rfl fun a272 H272 => ln_ <| ?_
     clear H266 a266 H269 a269 H270 a270 H271 a271
     have H273 := H272.sel [5, 13, 14] rfl
     refine nx <| sq_ <| sq_ <| rl_ <| wl_ <| p_ H273 rfl rfl fun a274 H274 => ?_
     clear H272 H273 a272
     by_cases hc276 : (decE qb : Int) = 0
     ·
      refine wl_ <| i_ H274 rfl (dd_cmp rfl (H274.ev 71 rfl) rfl (eq_t hc276)) fun a277 H277 => ln_ <| nx <| ct_ H277 rfl <| sq_ <| rl_ <| wl_ <| p_ H277 rfl rfl fun a278 H278 => wl_ <| c_ H278 rfl HSb268 (v := .tuple #[.agg (bs (encT (decLT qb))), .int .i64 0]) (dc_ Tryd.func10 rfl (args1 (H278.ev 74 rfl)) (enct_any _ _ _ (decLT qb) W266 (HVd267 _ HSb268.below) (Nat.le_trans hNd267.2 (by decide)) (hMd267)) (fun _ w9 h9 => ⟨_, by rw [encE_z.2 (okD_parts (decE_z.1 hc276)).1] at h9; exact h9.1, rfl, h9.2⟩)) fun W279 HS279 a279 H279 => wl_ <| p_ H279 rfl rfl fun a280 H280 => wl_ <| i_ H280 rfl (dd_ext rfl (H280.ev 73 rfl) rfl) fun a281 H281 => wl_ <| i_ H281 rfl (dd_ext rfl (H281.ev 73 rfl) rfl) fun a282 H282 => wl_ <| n_ H282 rfl (fun _ h => dd_new HS279 (bs (zer 32)) rfl (z := .agg (bs (zer 32))) (by kernel_rfl) rfl h) fun g15 W283 HS283 a283 H283 => wl_ <| t_ rfl (fun _ h => dd_setrow HS283 0 rfl rfl (H283.ev 15 rfl) (H283.ev 76 rfl) (by kernel_rfl) (((size_bs _).trans (length_encT _)) : (bs (encT (decLT qb))).size = 32) (((size_bs _).trans (length_zer 32)) : (bs (zer 32)).size = 32) (one_bs _) h) fun W284 HS284 => ?_
      clear H274 a274 H277 a277 H278 a278 HSb268 H279 a279 H280 a280 H281 a281 HS279 H282 a282
      refine wl_ <| p_ H283 rfl rfl fun a285 H285 => ln_ <| nx <| sq_ <| rl_ <| wl_ <| p_ H285 rfl rfl fun a286 H286 => wl_ <| i_ H286 rfl (dd_cmp rfl (H286.ev 78 rfl) rfl (ne_f (by decide))) fun a287 H287 => wl_ <| p_ H287 rfl rfl fun a288 H288 => wl_ <| ig H288 (wg_ H288 rfl rfl rfl rfl) rfl (v := .agg (bs (encT (decLT qb)))) (dd_load HS284 0 0 rfl rfl (H288.ev 15 rfl) (slab_whole _) Tryd.underlying24 rfl (by rw [show (bs (encT (decLT qb))).size = 32 from ((size_bs _).trans (length_encT _))]; kernel_rfl)) fun a289 H289 => wl_ <| ig H289 (wg_ H289 rfl rfl rfl rfl) rfl (v := .agg (bs qb)) (dd_loadR (HR268_0 _ HS284.below) rfl (H289.ev 5 rfl) (slab_whole _) Tryd.underlying24 rfl (by rw [show (bs qb).size = 32 from ((size_bs _).trans hqb)]; kernel_rfl)) fun a290 H290 => wl_ <| ig H290 (wg_ H290 rfl rfl rfl rfl) rfl (v := .bool false) (dd_nea (b := true) rfl (H290.ev 81 rfl) (H290.ev 82 rfl) (by kernel_rfl) (fun w => by have h9 := eql_blk (encT (decLT qb)) qb (length_encT _) hqb w; rw [decide_eq_true (okD_parts (decE_z.1 hc276)).2] at h9; exact h9) rfl) fun a291 H291 => q_ H291 2 rfl fun a292 H292 => ?_
      clear HS283 H283 a283 H285 a285 H286 a286 H287 a287 H288 a288 H289 a289 H290 a290
      refine wl_ <| ig H292 (wg_ H292 rfl rfl rfl rfl) rfl (dd_mv rfl (H292.ev 13 rfl)) fun a293 H293 => wl_ <| cg H293 (wg_ H293 rfl rfl rfl rfl) rfl HS284 (v := .bool true) (dc_ Tryd.func14 rfl (args1 (H293.ev 86 rfl)) (goodt_any _ _ _ (decLT qb) W284 (HVd267 _ HS284.below) (Nat.le_trans hNd267.2 (by decide)) (hMd267)) (fun _ w9 h9 => ⟨_, h9.1, by rw [(okD_parts (decE_z.1 hc276)).1], h9.2⟩)) fun W294 HS294 a294 H294 => wl_ <| ig H294 (wg_ H294 rfl rfl rfl rfl) rfl (v := .bool false) (dd_nt rfl (H294.ev 87 rfl) rfl) fun a295 H295 => wl_ <| p_ H295 rfl rfl fun a296 H296 => ln_ <| ?_
      clear H291 a291 H292 a292 H293 a293 HS284 H294 a294 H295 a295
      have H297 := H296.sel [89] rfl
      refine nx <| cf_ H297 rfl <| wp_skip <| nx <| sq_ <| rl_ <| wl_ <| c_ H297 rfl HS294 (dcs Tryd.func8 rfl (args0 ) (tabwakes_any W294) (.bool true)) fun W298 HS298 a298 H298 => wl_ <| p_ H298 rfl rfl fun a299 H299 => ln_ <| nx <| wp_ret <| ret_run H299.env0 (res_t Tryd.results4 (H299.get 6 rfl)) <| ?_
      clear H296 H297 a296 HS294 H298 a298
      exact ⟨rfl, (HBs268.trans (HS298.below.mono HBs268.size))⟩
     ·
      refine wl_ <| i_ H274 rfl (dd_cmp rfl (H274.ev 71 rfl) rfl (eq_f hc276)) fun a300 H300 => ln_ <| nx <| cf_ H300 rfl <| wp_skip <| nx <| sq_ <| rl_ <| wl_ <| c_ H300 rfl HSb268 (dcs Tryd.func8 rfl (args0 ) (tabwakes_any W266) (.bool true)) fun W301 HS301 a301 H301 => wl_ <| p_ H301 rfl rfl fun a302 H302 => ln_ <| nx <| wp_ret <| ret_run H302.env0 (res_t Tryd.results4 (H302.get 6 rfl)) <| ?_
      clear H274 a274 H300 a300 HSb268 H301 a301
      exact ⟨rfl, (HBs268.trans (HS301.below.mono HBs268.size))⟩
end Go.Proofs.YtpmedgibnnonkaaDoor
