/- Are two lists of ints alike? -/
import Derived.Test.YtkfccdjeohbngaaInts
import Derived.Test.YtkfccdjeohbngaaPhs
import Derived.Deep.Cut
set_option maxRecDepth 4000
namespace Go.Proofs.Ytkfccdjeohbngaa
open Go Go.RowKit
set_option maxRecDepth 20000 in
set_option maxHeartbeats 800000 in
theorem keepints_any (la lb : List Int) (A1 A2 : Option Addr) (n1 n2 c1 c2 : Nat) (w : World) (hu : IntsAt w (.slice A1 n1 c1) la) (hv : IntsAt w (.slice A2 n2 c2) lb) (hl : n1 ≤ 1000000) :
    Calls Try.prog 16 #[.slice A1 n1 c1, .slice A2 n2 c2] w fun e w' => e = .returned (.bool (decide (la = lb))) ∧ Below w.heap.size w w' := by
  have hln1 := ints_len hu
  have hln2 := ints_len hv
  obtain ⟨G, hG⟩ : ∃ G, decide (la = lb) = G := ⟨_, rfl⟩
  by_cases hlen : n1 = n2
  case neg =>
    have hG0 : G = false := by rw [← hG, decide_eq_false (fun h => hlen (by rw [← hln1, ← hln2, h]))]
    rw [hG, hG0]
    have hq : (n1 : Int) ≠ (n2 : Int) := by omega
    clear hu hv hG hlen hln1 hln2 hG0
    go_enter Try.func16, Try.ntmps16
    go_wp2_with fail
    go_ret
    exact ⟨rfl, Below.refl _ _⟩
  subst hlen
  have HF := Lib.hid (fun k (hk : k < la.length) => ints_get hu hk)
  have HF2 := Lib.hid (fun k (hk : k < lb.length) => ints_get hv hk)
  have HALL : Hid ((∀ i < n1, la[i]? = lb[i]?) → G = true) := Lib.hid fun h => by
    rw [← hG]
    refine decide_eq_true (List.ext_getElem? fun i => ?_)
    by_cases hi : i < n1
    · exact h i hi
    · rw [List.getElem?_eq_none (by omega), List.getElem?_eq_none (by omega)]
  have HNO : Hid (∀ k : Nat, la[k]? ≠ lb[k]? → G = false) := Lib.hid fun k h => by
    rw [← hG]; exact decide_eq_false (fun e => h (by rw [e]))
  have HL1 := Lib.hid hln1
  have HL2 := Lib.hid hln2
  obtain ⟨n, hn⟩ : ∃ n, n1 = n := ⟨_, rfl⟩
  rw [hG]
  rw [hn] at HALL HL1 HL2 hl ⊢
  clear hu hv hG hln1 hln2 hn
  go_enter Try.func16, Try.ntmps16
  go_wp2_with fail
  go_loopw [5] (fun i wr => ∃ k : Nat, k ≤ n ∧ i = .int .i64 k ∧ Hid (∀ j < k, la[j]? = lb[j]?) ∧ Below w.heap.size w wr) (fun i _ => n - (intOf i).toNat)
  case atStart => exact ⟨0, by omega, rfl, Lib.hid fun j hj => by omega, Below.refl _ _⟩
  case round =>
    obtain ⟨k, hk, rfl, HE, hB⟩ := hrel
    have HB := Lib.hid hB
    clear hB
    by_cases hlt : k < n
    · obtain ⟨b1, o1, x, hx1, rfl, hb1, hc1, _⟩ := HF.out k (by rw [HL1.out]; exact hlt)
      obtain ⟨b2, o2, y, hx2, rfl, hb2, hc2, _⟩ := HF2.out k (by rw [HL2.out]; exact hlt)
      obtain ⟨O1, hO1⟩ : ∃ O, o1 + k = O := ⟨_, rfl⟩
      obtain ⟨O2, hO2⟩ : ∃ O, o2 + k = O := ⟨_, rfl⟩
      rw [hO1] at hc1
      rw [hO2] at hc2
      have HX1 := Lib.hid hx1
      have HX2 := Lib.hid hx2
      have HC1 := Lib.hid hc1
      have HC2 := Lib.hid hc2
      have HW1 := Lib.hid hb1
      have HW2 := Lib.hid hb2
      have HO1 := Lib.hid hO1
      have HO2 := Lib.hid hO2
      have hk0 : (0 : Int) ≤ (k : Int) := by omega
      have hk1 : (k : Int) < (n : Int) := by omega
      clear hx1 hx2 hc1 hc2 hb1 hb2 hO1 hO2
      go_upto_region 6 with fail
      have hF0 : Wl [(fun W => Below w.heap.size w W)] 0 (World.drew _) := HB.out.drew
      by_cases hxy : x = y
      · have HQ : Hid ((x : Int) = y) := Lib.hid hxy
        have HXY := Lib.hid hxy
        clear hxy
        refine wp_region_phs [is (.slice (some ⟨b1, o1, none⟩) n c1), is (.int .i64 (k : Int)), is (.pointer (some ⟨b1, O1, none⟩)), is (.int .i64 x), is (.slice (some ⟨b2, o2, none⟩) n c2), is (.int .i64 (k : Int)), is (.pointer (some ⟨b2, O2, none⟩)), is (.int .i64 y), is (.bool false)] [true, true, true, true, true, true, true, true, true] [(fun W => Below w.heap.size w W)] [false, false, false, false, false, false, false, false, false] [some 0, some 0, some 0, some 0, some 0, some 0, some 0, some 0, some 0] [some 17, some 18, some 19, some 20, some 21, some 22, some 23, some 24, some 25] 9 0 (fun _ => true) rfl rfl (by kernel_rfl) (by kernel_rfl) (by kernel_rfl) (by kernel_rfl) ?_ ?_ ?_ ?_ ?_ ?_
        · repeat first | exact wok_nil | refine wok_cons (by first | exact fun _ _ h k => h.trans (k.mono h.size)) ?_
        · repeat first | exact vok_nil | refine vok_rig (by first | exact fun _ _ _ h => h) ?_ | refine vok_soft (by first | exact fun _ _ _ h _ => h) ?_
        · exact hF0
        · repeat first | exact all_end (by decide) | refine all_cons (by first | exact rfl | exact ⟨rfl, fun _ _ h => Or.inl h⟩ | exact ⟨rfl, fun _ _ h => Or.inr ⟨h, rfl⟩⟩) ?_
        · refine allp_mild 0 rfl rfl rfl (fun a x_ W hout hin hP => ?_) ?_
          · have e0 : a.tmps[0]? = some (.slice (some ⟨b1, o1, none⟩) n c1) := (hout 0 (by kernel_rfl)).trans rfl
            exact does_move rfl e0 ⟨Same.refl _, rfl⟩
          refine allp_mild 0 rfl rfl rfl (fun a x_ W hout hin hP => ?_) ?_
          · have e5 : a.tmps[5]? = some (.int .i64 (k : Int)) := (hout 5 (by kernel_rfl)).trans rfl
            exact does_move rfl e5 ⟨Same.refl _, rfl⟩
          refine allp_mild 0 rfl rfl rfl (fun a x_ W hout hin hP => ?_) ?_
          · have e17 := hin.is 0 17 (by kernel_rfl) (by decide) (by kernel_rfl) (by kernel_rfl) _ rfl
            have e18 := hin.is 1 18 (by kernel_rfl) (by decide) (by kernel_rfl) (by kernel_rfl) _ rfl
            have hO := HO1.out
            clear hin hout
            intro K Q hK
            go_simp
            exact hK _ _ ⟨Same.refl _, rfl⟩
          refine allp_mild 0 rfl rfl rfl (fun a x_ W hout hin hP => ?_) ?_
          · have e19 := hin.is 2 19 (by kernel_rfl) (by decide) (by kernel_rfl) (by kernel_rfl) _ rfl
            have hc : W.cell? ⟨b1, O1, none⟩ = some (.int .i64 x) := (hP.cell (p := ⟨b1, O1, none⟩) HW1.out).trans HC1.out
            clear hP
            clear hin hout
            intro K Q hK
            go_simp
            exact hK _ _ ⟨Same.refl _, rfl⟩
          refine allp_mild 0 rfl rfl rfl (fun a x_ W hout hin hP => ?_) ?_
          · have e1 : a.tmps[1]? = some (.slice (some ⟨b2, o2, none⟩) n c2) := (hout 1 (by kernel_rfl)).trans rfl
            exact does_move rfl e1 ⟨Same.refl _, rfl⟩
          refine allp_mild 0 rfl rfl rfl (fun a x_ W hout hin hP => ?_) ?_
          · have e5 : a.tmps[5]? = some (.int .i64 (k : Int)) := (hout 5 (by kernel_rfl)).trans rfl
            exact does_move rfl e5 ⟨Same.refl _, rfl⟩
          refine allp_mild 0 rfl rfl rfl (fun a x_ W hout hin hP => ?_) ?_
          · have e21 := hin.is 4 21 (by kernel_rfl) (by decide) (by kernel_rfl) (by kernel_rfl) _ rfl
            have e22 := hin.is 5 22 (by kernel_rfl) (by decide) (by kernel_rfl) (by kernel_rfl) _ rfl
            have hO := HO2.out
            clear hin hout
            intro K Q hK
            go_simp
            exact hK _ _ ⟨Same.refl _, rfl⟩
          refine allp_mild 0 rfl rfl rfl (fun a x_ W hout hin hP => ?_) ?_
          · have e23 := hin.is 6 23 (by kernel_rfl) (by decide) (by kernel_rfl) (by kernel_rfl) _ rfl
            have hc : W.cell? ⟨b2, O2, none⟩ = some (.int .i64 y) := (hP.cell (p := ⟨b2, O2, none⟩) HW2.out).trans HC2.out
            clear hP
            clear hin hout
            intro K Q hK
            go_simp
            exact hK _ _ ⟨Same.refl _, rfl⟩
          refine allp_mild 0 rfl rfl rfl (fun a x_ W hout hin hP => ?_) ?_
          · have e20 := hin.is 3 20 (by kernel_rfl) (by decide) (by kernel_rfl) (by kernel_rfl) _ rfl
            have e24 := hin.is 7 24 (by kernel_rfl) (by decide) (by kernel_rfl) (by kernel_rfl) _ rfl
            have hq := HQ.out
            clear hP
            clear hin hout
            intro K Q hK
            go_simp
            exact hK _ _ ⟨Same.refl _, rfl⟩
          exact all_end (by decide)
        · intro x_ W hP hV
          have hB9 := hP
          have h8 : x_ 8 = .bool false := hV 8 (by decide) (.inl (by kernel_rfl))
          clear hP hV
          simp only [putL, Act.put, List.setIfInBounds_toArray, List.set_cons_succ, List.set_cons_zero, h8]
          refine wpAnyH_done (by kernel_rfl) ?_ _
          clear h8
          go_wp2_with fail
          refine ⟨⟨k + 1, by omega, by go_num, Lib.hid fun i hi => ?_, hB9⟩, by simp [intOf] <;> omega⟩
          rcases Nat.lt_or_eq_of_le (Nat.le_of_lt_succ hi) with h | rfl
          · exact HE.out i h
          · rw [HX1.out, HX2.out, HXY.out]
      · have HQ : Hid ((x != y) = true) := Lib.hid (bne_iff_ne.2 hxy)
        have HXY := Lib.hid hxy
        clear hxy
        refine wp_region_phs [is (.slice (some ⟨b1, o1, none⟩) n c1), is (.int .i64 (k : Int)), is (.pointer (some ⟨b1, O1, none⟩)), is (.int .i64 x), is (.slice (some ⟨b2, o2, none⟩) n c2), is (.int .i64 (k : Int)), is (.pointer (some ⟨b2, O2, none⟩)), is (.int .i64 y), is (.bool true)] [true, true, true, true, true, true, true, true, true] [(fun W => Below w.heap.size w W)] [false, false, false, false, false, false, false, false, false] [some 0, some 0, some 0, some 0, some 0, some 0, some 0, some 0, some 0] [some 17, some 18, some 19, some 20, some 21, some 22, some 23, some 24, some 25] 9 0 (fun _ => true) rfl rfl (by kernel_rfl) (by kernel_rfl) (by kernel_rfl) (by kernel_rfl) ?_ ?_ ?_ ?_ ?_ ?_
        · repeat first | exact wok_nil | refine wok_cons (by first | exact fun _ _ h k => h.trans (k.mono h.size)) ?_
        · repeat first | exact vok_nil | refine vok_rig (by first | exact fun _ _ _ h => h) ?_ | refine vok_soft (by first | exact fun _ _ _ h _ => h) ?_
        · exact hF0
        · repeat first | exact all_end (by decide) | refine all_cons (by first | exact rfl | exact ⟨rfl, fun _ _ h => Or.inl h⟩ | exact ⟨rfl, fun _ _ h => Or.inr ⟨h, rfl⟩⟩) ?_
        · refine allp_mild 0 rfl rfl rfl (fun a x_ W hout hin hP => ?_) ?_
          · have e0 : a.tmps[0]? = some (.slice (some ⟨b1, o1, none⟩) n c1) := (hout 0 (by kernel_rfl)).trans rfl
            exact does_move rfl e0 ⟨Same.refl _, rfl⟩
          refine allp_mild 0 rfl rfl rfl (fun a x_ W hout hin hP => ?_) ?_
          · have e5 : a.tmps[5]? = some (.int .i64 (k : Int)) := (hout 5 (by kernel_rfl)).trans rfl
            exact does_move rfl e5 ⟨Same.refl _, rfl⟩
          refine allp_mild 0 rfl rfl rfl (fun a x_ W hout hin hP => ?_) ?_
          · have e17 := hin.is 0 17 (by kernel_rfl) (by decide) (by kernel_rfl) (by kernel_rfl) _ rfl
            have e18 := hin.is 1 18 (by kernel_rfl) (by decide) (by kernel_rfl) (by kernel_rfl) _ rfl
            have hO := HO1.out
            clear hin hout
            intro K Q hK
            go_simp
            exact hK _ _ ⟨Same.refl _, rfl⟩
          refine allp_mild 0 rfl rfl rfl (fun a x_ W hout hin hP => ?_) ?_
          · have e19 := hin.is 2 19 (by kernel_rfl) (by decide) (by kernel_rfl) (by kernel_rfl) _ rfl
            have hc : W.cell? ⟨b1, O1, none⟩ = some (.int .i64 x) := (hP.cell (p := ⟨b1, O1, none⟩) HW1.out).trans HC1.out
            clear hP
            clear hin hout
            intro K Q hK
            go_simp
            exact hK _ _ ⟨Same.refl _, rfl⟩
          refine allp_mild 0 rfl rfl rfl (fun a x_ W hout hin hP => ?_) ?_
          · have e1 : a.tmps[1]? = some (.slice (some ⟨b2, o2, none⟩) n c2) := (hout 1 (by kernel_rfl)).trans rfl
            exact does_move rfl e1 ⟨Same.refl _, rfl⟩
          refine allp_mild 0 rfl rfl rfl (fun a x_ W hout hin hP => ?_) ?_
          · have e5 : a.tmps[5]? = some (.int .i64 (k : Int)) := (hout 5 (by kernel_rfl)).trans rfl
            exact does_move rfl e5 ⟨Same.refl _, rfl⟩
          refine allp_mild 0 rfl rfl rfl (fun a x_ W hout hin hP => ?_) ?_
          · have e21 := hin.is 4 21 (by kernel_rfl) (by decide) (by kernel_rfl) (by kernel_rfl) _ rfl
            have e22 := hin.is 5 22 (by kernel_rfl) (by decide) (by kernel_rfl) (by kernel_rfl) _ rfl
            have hO := HO2.out
            clear hin hout
            intro K Q hK
            go_simp
            exact hK _ _ ⟨Same.refl _, rfl⟩
          refine allp_mild 0 rfl rfl rfl (fun a x_ W hout hin hP => ?_) ?_
          · have e23 := hin.is 6 23 (by kernel_rfl) (by decide) (by kernel_rfl) (by kernel_rfl) _ rfl
            have hc : W.cell? ⟨b2, O2, none⟩ = some (.int .i64 y) := (hP.cell (p := ⟨b2, O2, none⟩) HW2.out).trans HC2.out
            clear hP
            clear hin hout
            intro K Q hK
            go_simp
            exact hK _ _ ⟨Same.refl _, rfl⟩
          refine allp_mild 0 rfl rfl rfl (fun a x_ W hout hin hP => ?_) ?_
          · have e20 := hin.is 3 20 (by kernel_rfl) (by decide) (by kernel_rfl) (by kernel_rfl) _ rfl
            have e24 := hin.is 7 24 (by kernel_rfl) (by decide) (by kernel_rfl) (by kernel_rfl) _ rfl
            have hq := HQ.out
            clear hP
            clear hin hout
            intro K Q hK
            go_simp
            exact hK _ _ ⟨Same.refl _, rfl⟩
          exact all_end (by decide)
        · intro x_ W hP hV
          have hB9 := hP
          have h8 : x_ 8 = .bool true := hV 8 (by decide) (.inl (by kernel_rfl))
          clear hP hV
          simp only [putL, Act.put, List.setIfInBounds_toArray, List.set_cons_succ, List.set_cons_zero, h8]
          refine wpAnyH_done (by kernel_rfl) ?_ _
          clear h8
          have hG := HNO.out k (by rw [HX1.out, HX2.out]; exact fun h => HXY.out (Option.some.inj h))
          go_wp2_with fail
          go_ret
          exact ⟨by first | rfl | (rw [hG]; rfl), hB9⟩
    · obtain rfl : k = n := by omega
      have hG := HALL.out HE.out
      go_wp2_with fail
      go_ret
      exact ⟨by first | rfl | (rw [hG]; rfl), HB.out⟩
end Go.Proofs.Ytkfccdjeohbngaa
