/- Merged: TabRefD KeepInts KeepVols TabWakes AppEI PoolOwn PoolFair. -/
import Derived.Deep.Cut
import Derived.ArgAppend
import Derived.Test.YtpmedgibnnonkaaDoorMGen4
import Derived.Test.YtpmedgibnnonkaaDoorMGen0
import Derived.Test.YtpmedgibnnonkaaDoorMGen2
import Derived.Test.YtpmedgibnnonkaaDoorMGen1
/- The document's tables: Decode. -/
set_option maxRecDepth 4000
namespace Go.Proofs.YtpmedgibnnonkaaDoor
open Go Go.RowKit
theorem rdect_any (q : List (BitVec 8)) (w : World) (hq : q.length = 32) :
    Calls Tryd.prog 13 #[.agg (bs q)] w fun e w' => ∃ v, e = .returned (.tuple #[v, .int .i64 (decE q)]) ∧ OV w.heap.size w' v (volL (decLT q)) ∧ Below w.heap.size w w' := by
  have hb := bd_lo (q.getD 0 0#8)
  by_cases h : (3 : Int) < bd (q.getD 0 0#8)
  · exact rdect4 q w hq h
  have e : q.getD 0 0#8 = BitVec.ofInt 8 (bd (q.getD 0 0#8)) := bd_inj (bd_of _ hb (by omega))
  rcases (by omega : bd (q.getD 0 0#8) = 0 ∨ bd (q.getD 0 0#8) = 1 ∨ bd (q.getD 0 0#8) = 2 ∨ bd (q.getD 0 0#8) = 3) with h | h | h | h <;> rw [h] at e
  · exact rdect0 q w hq e
  · exact rdect1 q w hq e
  · exact rdect2 q w hq e
  · exact rdect3 q w hq e
end Go.Proofs.YtpmedgibnnonkaaDoor

/- Are two lists of ints alike? -/
set_option maxRecDepth 4000
namespace Go.Proofs.YtpmedgibnnonkaaDoor
open Go Go.RowKit
set_option maxRecDepth 20000 in
set_option maxHeartbeats 800000 in
theorem keepints_any (la lb : List Int) (A1 A2 : Option Addr) (n1 n2 c1 c2 : Nat) (w : World) (hu : IntsAt w (.slice A1 n1 c1) la) (hv : IntsAt w (.slice A2 n2 c2) lb) (hl : n1 ≤ 1000000) :
    Calls Tryd.prog 26 #[.slice A1 n1 c1, .slice A2 n2 c2] w fun e w' => e = .returned (.bool (decide (la = lb))) ∧ Below w.heap.size w w' := by
  have hln1 := ints_len hu
  have hln2 := ints_len hv
  obtain ⟨G, hG⟩ : ∃ G, decide (la = lb) = G := ⟨_, rfl⟩
  by_cases hlen : n1 = n2
  case neg =>
    have hG0 : G = false := by rw [← hG, decide_eq_false (fun h => hlen (by rw [← hln1, ← hln2, h]))]
    rw [hG, hG0]
    have hq : (n1 : Int) ≠ (n2 : Int) := by omega
    clear hu hv hG hlen hln1 hln2 hG0
    go_enter Tryd.func26, Tryd.ntmps26
    go_wp2_with fail
    go_ret
    exact ⟨rfl, Below.refl _ _⟩
  subst hlen
  have HF := Lib.hid (fun k (hk : k < la.length) => ints_get hu hk)
  have HF2 := Lib.hid (fun k (hk : k < lb.length) => ints_get hv hk)
  have HALL : Hid ((∀ i < n1, la[i]? = lb[i]?) → G = true) := Lib.hid fun h => by
    rw [← hG]
    refine decide_eq_true (List.ext_getElem? fun i => ?_)
    by_cases hi : i < n1
    · exact h i hi
    · rw [List.getElem?_eq_none (by omega), List.getElem?_eq_none (by omega)]
  have HNO : Hid (∀ k : Nat, la[k]? ≠ lb[k]? → G = false) := Lib.hid fun k h => by
    rw [← hG]; exact decide_eq_false (fun e => h (by rw [e]))
  have HL1 := Lib.hid hln1
  have HL2 := Lib.hid hln2
  obtain ⟨n, hn⟩ : ∃ n, n1 = n := ⟨_, rfl⟩
  rw [hG]
  rw [hn] at HALL HL1 HL2 hl ⊢
  clear hu hv hG hln1 hln2 hn
  go_enter Tryd.func26, Tryd.ntmps26
  go_wp2_with fail
  go_loopw [5] (fun i wr => ∃ k : Nat, k ≤ n ∧ i = .int .i64 k ∧ Hid (∀ j < k, la[j]? = lb[j]?) ∧ Below w.heap.size w wr) (fun i _ => n - (intOf i).toNat)
  case atStart => exact ⟨0, by omega, rfl, Lib.hid fun j hj => by omega, Below.refl _ _⟩
  case round =>
    obtain ⟨k, hk, rfl, HE, hB⟩ := hrel
    have HB := Lib.hid hB
    clear hB
    by_cases hlt : k < n
    · obtain ⟨b1, o1, x, hx1, rfl, hb1, hc1, _⟩ := HF.out k (by rw [HL1.out]; exact hlt)
      obtain ⟨b2, o2, y, hx2, rfl, hb2, hc2, _⟩ := HF2.out k (by rw [HL2.out]; exact hlt)
      obtain ⟨O1, hO1⟩ : ∃ O, o1 + k = O := ⟨_, rfl⟩
      obtain ⟨O2, hO2⟩ : ∃ O, o2 + k = O := ⟨_, rfl⟩
      rw [hO1] at hc1
      rw [hO2] at hc2
      have HX1 := Lib.hid hx1
      have HX2 := Lib.hid hx2
      have HC1 := Lib.hid hc1
      have HC2 := Lib.hid hc2
      have HW1 := Lib.hid hb1
      have HW2 := Lib.hid hb2
      have HO1 := Lib.hid hO1
      have HO2 := Lib.hid hO2
      have hk0 : (0 : Int) ≤ (k : Int) := by omega
      have hk1 : (k : Int) < (n : Int) := by omega
      clear hx1 hx2 hc1 hc2 hb1 hb2 hO1 hO2
      go_upto_region 6 with fail
      have hF0 : Wl [(fun W => Below w.heap.size w W)] 0 (World.drew _) := HB.out.drew
      by_cases hxy : x = y
      · have HQ : Hid ((x : Int) = y) := Lib.hid hxy
        have HXY := Lib.hid hxy
        clear hxy
        refine wp_region_phs [is (.slice (some ⟨b1, o1, none⟩) n c1), is (.int .i64 (k : Int)), is (.pointer (some ⟨b1, O1, none⟩)), is (.int .i64 x), is (.slice (some ⟨b2, o2, none⟩) n c2), is (.int .i64 (k : Int)), is (.pointer (some ⟨b2, O2, none⟩)), is (.int .i64 y), is (.bool false)] [true, true, true, true, true, true, true, true, true] [(fun W => Below w.heap.size w W)] [false, false, false, false, false, false, false, false, false] [some 0, some 0, some 0, some 0, some 0, some 0, some 0, some 0, some 0] [some 17, some 18, some 19, some 20, some 21, some 22, some 23, some 24, some 25] 9 0 (fun _ => true) rfl rfl (by kernel_rfl) (by kernel_rfl) (by kernel_rfl) (by kernel_rfl) ?_ ?_ ?_ ?_ ?_ ?_
        · repeat first | exact wok_nil | refine wok_cons (by first | exact fun _ _ h k => h.trans (k.mono h.size)) ?_
        · repeat first | exact vok_nil | refine vok_rig (by first | exact fun _ _ _ h => h) ?_ | refine vok_soft (by first | exact fun _ _ _ h _ => h) ?_
        · exact hF0
        · repeat first | exact all_end (by decide) | refine all_cons (by first | exact rfl | exact ⟨rfl, fun _ _ h => Or.inl h⟩ | exact ⟨rfl, fun _ _ h => Or.inr ⟨h, rfl⟩⟩) ?_
        · refine allp_mild 0 rfl rfl rfl (fun a x_ W hout hin hP => ?_) ?_
          · have e0 : a.tmps[0]? = some (.slice (some ⟨b1, o1, none⟩) n c1) := (hout 0 (by kernel_rfl)).trans rfl
            exact does_move rfl e0 ⟨Same.refl _, rfl⟩
          refine allp_mild 0 rfl rfl rfl (fun a x_ W hout hin hP => ?_) ?_
          · have e5 : a.tmps[5]? = some (.int .i64 (k : Int)) := (hout 5 (by kernel_rfl)).trans rfl
            exact does_move rfl e5 ⟨Same.refl _, rfl⟩
          refine allp_mild 0 rfl rfl rfl (fun a x_ W hout hin hP => ?_) ?_
          · have e17 := hin.is 0 17 (by kernel_rfl) (by decide) (by kernel_rfl) (by kernel_rfl) _ rfl
            have e18 := hin.is 1 18 (by kernel_rfl) (by decide) (by kernel_rfl) (by kernel_rfl) _ rfl
            have hO := HO1.out
            clear hin hout
            intro K Q hK
            go_simp
            exact hK _ _ ⟨Same.refl _, rfl⟩
          refine allp_mild 0 rfl rfl rfl (fun a x_ W hout hin hP => ?_) ?_
          · have e19 := hin.is 2 19 (by kernel_rfl) (by decide) (by kernel_rfl) (by kernel_rfl) _ rfl
            have hc : W.cell? ⟨b1, O1, none⟩ = some (.int .i64 x) := (hP.cell (p := ⟨b1, O1, none⟩) HW1.out).trans HC1.out
            clear hP
            clear hin hout
            intro K Q hK
            go_simp
            exact hK _ _ ⟨Same.refl _, rfl⟩
          refine allp_mild 0 rfl rfl rfl (fun a x_ W hout hin hP => ?_) ?_
          · have e1 : a.tmps[1]? = some (.slice (some ⟨b2, o2, none⟩) n c2) := (hout 1 (by kernel_rfl)).trans rfl
            exact does_move rfl e1 ⟨Same.refl _, rfl⟩
          refine allp_mild 0 rfl rfl rfl (fun a x_ W hout hin hP => ?_) ?_
          · have e5 : a.tmps[5]? = some (.int .i64 (k : Int)) := (hout 5 (by kernel_rfl)).trans rfl
            exact does_move rfl e5 ⟨Same.refl _, rfl⟩
          refine allp_mild 0 rfl rfl rfl (fun a x_ W hout hin hP => ?_) ?_
          · have e21 := hin.is 4 21 (by kernel_rfl) (by decide) (by kernel_rfl) (by kernel_rfl) _ rfl
            have e22 := hin.is 5 22 (by kernel_rfl) (by decide) (by kernel_rfl) (by kernel_rfl) _ rfl
            have hO := HO2.out
            clear hin hout
            intro K Q hK
            go_simp
            exact hK _ _ ⟨Same.refl _, rfl⟩
          refine allp_mild 0 rfl rfl rfl (fun a x_ W hout hin hP => ?_) ?_
          · have e23 := hin.is 6 23 (by kernel_rfl) (by decide) (by kernel_rfl) (by kernel_rfl) _ rfl
            have hc : W.cell? ⟨b2, O2, none⟩ = some (.int .i64 y) := (hP.cell (p := ⟨b2, O2, none⟩) HW2.out).trans HC2.out
            clear hP
            clear hin hout
            intro K Q hK
            go_simp
            exact hK _ _ ⟨Same.refl _, rfl⟩
          refine allp_mild 0 rfl rfl rfl (fun a x_ W hout hin hP => ?_) ?_
          · have e20 := hin.is 3 20 (by kernel_rfl) (by decide) (by kernel_rfl) (by kernel_rfl) _ rfl
            have e24 := hin.is 7 24 (by kernel_rfl) (by decide) (by kernel_rfl) (by kernel_rfl) _ rfl
            have hq := HQ.out
            clear hP
            clear hin hout
            intro K Q hK
            go_simp
            exact hK _ _ ⟨Same.refl _, rfl⟩
          exact all_end (by decide)
        · intro x_ W hP hV
          have hB9 := hP
          have h8 : x_ 8 = .bool false := hV 8 (by decide) (.inl (by kernel_rfl))
          clear hP hV
          simp only [putL, Act.put, List.setIfInBounds_toArray, List.set_cons_succ, List.set_cons_zero, h8]
          refine wpAnyH_done (by kernel_rfl) ?_ _
          clear h8
          go_wp2_with fail
          refine ⟨⟨k + 1, by omega, by go_num, Lib.hid fun i hi => ?_, hB9⟩, by simp [intOf] <;> omega⟩
          rcases Nat.lt_or_eq_of_le (Nat.le_of_lt_succ hi) with h | rfl
          · exact HE.out i h
          · rw [HX1.out, HX2.out, HXY.out]
      · have HQ : Hid ((x != y) = true) := Lib.hid (bne_iff_ne.2 hxy)
        have HXY := Lib.hid hxy
        clear hxy
        refine wp_region_phs [is (.slice (some ⟨b1, o1, none⟩) n c1), is (.int .i64 (k : Int)), is (.pointer (some ⟨b1, O1, none⟩)), is (.int .i64 x), is (.slice (some ⟨b2, o2, none⟩) n c2), is (.int .i64 (k : Int)), is (.pointer (some ⟨b2, O2, none⟩)), is (.int .i64 y), is (.bool true)] [true, true, true, true, true, true, true, true, true] [(fun W => Below w.heap.size w W)] [false, false, false, false, false, false, false, false, false] [some 0, some 0, some 0, some 0, some 0, some 0, some 0, some 0, some 0] [some 17, some 18, some 19, some 20, some 21, some 22, some 23, some 24, some 25] 9 0 (fun _ => true) rfl rfl (by kernel_rfl) (by kernel_rfl) (by kernel_rfl) (by kernel_rfl) ?_ ?_ ?_ ?_ ?_ ?_
        · repeat first | exact wok_nil | refine wok_cons (by first | exact fun _ _ h k => h.trans (k.mono h.size)) ?_
        · repeat first | exact vok_nil | refine vok_rig (by first | exact fun _ _ _ h => h) ?_ | refine vok_soft (by first | exact fun _ _ _ h _ => h) ?_
        · exact hF0
        · repeat first | exact all_end (by decide) | refine all_cons (by first | exact rfl | exact ⟨rfl, fun _ _ h => Or.inl h⟩ | exact ⟨rfl, fun _ _ h => Or.inr ⟨h, rfl⟩⟩) ?_
        · refine allp_mild 0 rfl rfl rfl (fun a x_ W hout hin hP => ?_) ?_
          · have e0 : a.tmps[0]? = some (.slice (some ⟨b1, o1, none⟩) n c1) := (hout 0 (by kernel_rfl)).trans rfl
            exact does_move rfl e0 ⟨Same.refl _, rfl⟩
          refine allp_mild 0 rfl rfl rfl (fun a x_ W hout hin hP => ?_) ?_
          · have e5 : a.tmps[5]? = some (.int .i64 (k : Int)) := (hout 5 (by kernel_rfl)).trans rfl
            exact does_move rfl e5 ⟨Same.refl _, rfl⟩
          refine allp_mild 0 rfl rfl rfl (fun a x_ W hout hin hP => ?_) ?_
          · have e17 := hin.is 0 17 (by kernel_rfl) (by decide) (by kernel_rfl) (by kernel_rfl) _ rfl
            have e18 := hin.is 1 18 (by kernel_rfl) (by decide) (by kernel_rfl) (by kernel_rfl) _ rfl
            have hO := HO1.out
            clear hin hout
            intro K Q hK
            go_simp
            exact hK _ _ ⟨Same.refl _, rfl⟩
          refine allp_mild 0 rfl rfl rfl (fun a x_ W hout hin hP => ?_) ?_
          · have e19 := hin.is 2 19 (by kernel_rfl) (by decide) (by kernel_rfl) (by kernel_rfl) _ rfl
            have hc : W.cell? ⟨b1, O1, none⟩ = some (.int .i64 x) := (hP.cell (p := ⟨b1, O1, none⟩) HW1.out).trans HC1.out
            clear hP
            clear hin hout
            intro K Q hK
            go_simp
            exact hK _ _ ⟨Same.refl _, rfl⟩
          refine allp_mild 0 rfl rfl rfl (fun a x_ W hout hin hP => ?_) ?_
          · have e1 : a.tmps[1]? = some (.slice (some ⟨b2, o2, none⟩) n c2) := (hout 1 (by kernel_rfl)).trans rfl
            exact does_move rfl e1 ⟨Same.refl _, rfl⟩
          refine allp_mild 0 rfl rfl rfl (fun a x_ W hout hin hP => ?_) ?_
          · have e5 : a.tmps[5]? = some (.int .i64 (k : Int)) := (hout 5 (by kernel_rfl)).trans rfl
            exact does_move rfl e5 ⟨Same.refl _, rfl⟩
          refine allp_mild 0 rfl rfl rfl (fun a x_ W hout hin hP => ?_) ?_
          · have e21 := hin.is 4 21 (by kernel_rfl) (by decide) (by kernel_rfl) (by kernel_rfl) _ rfl
            have e22 := hin.is 5 22 (by kernel_rfl) (by decide) (by kernel_rfl) (by kernel_rfl) _ rfl
            have hO := HO2.out
            clear hin hout
            intro K Q hK
            go_simp
            exact hK _ _ ⟨Same.refl _, rfl⟩
          refine allp_mild 0 rfl rfl rfl (fun a x_ W hout hin hP => ?_) ?_
          · have e23 := hin.is 6 23 (by kernel_rfl) (by decide) (by kernel_rfl) (by kernel_rfl) _ rfl
            have hc : W.cell? ⟨b2, O2, none⟩ = some (.int .i64 y) := (hP.cell (p := ⟨b2, O2, none⟩) HW2.out).trans HC2.out
            clear hP
            clear hin hout
            intro K Q hK
            go_simp
            exact hK _ _ ⟨Same.refl _, rfl⟩
          refine allp_mild 0 rfl rfl rfl (fun a x_ W hout hin hP => ?_) ?_
          · have e20 := hin.is 3 20 (by kernel_rfl) (by decide) (by kernel_rfl) (by kernel_rfl) _ rfl
            have e24 := hin.is 7 24 (by kernel_rfl) (by decide) (by kernel_rfl) (by kernel_rfl) _ rfl
            have hq := HQ.out
            clear hP
            clear hin hout
            intro K Q hK
            go_simp
            exact hK _ _ ⟨Same.refl _, rfl⟩
          exact all_end (by decide)
        · intro x_ W hP hV
          have hB9 := hP
          have h8 : x_ 8 = .bool true := hV 8 (by decide) (.inl (by kernel_rfl))
          clear hP hV
          simp only [putL, Act.put, List.setIfInBounds_toArray, List.set_cons_succ, List.set_cons_zero, h8]
          refine wpAnyH_done (by kernel_rfl) ?_ _
          clear h8
          have hG := HNO.out k (by rw [HX1.out, HX2.out]; exact fun h => HXY.out (Option.some.inj h))
          go_wp2_with fail
          go_ret
          exact ⟨by first | rfl | (rw [hG]; rfl), hB9⟩
    · obtain rfl : k = n := by omega
      have hG := HALL.out HE.out
      go_wp2_with fail
      go_ret
      exact ⟨by first | rfl | (rw [hG]; rfl), HB.out⟩
end Go.Proofs.YtpmedgibnnonkaaDoor

/- Are two lists of volumes alike? -/
set_option maxRecDepth 4000
namespace Go.Proofs.YtpmedgibnnonkaaDoor
open Go Go.RowKit
theorem str_ext {s t : ByteArray} (h : s.toList = t.toList) : s = t := by
  rw [ByteArray.toList_eq, ByteArray.toList_eq] at h
  exact ByteArray.ext (Array.toList_inj.1 h)
set_option maxRecDepth 20000 in
set_option maxHeartbeats 1600000 in
theorem keepvols_any (la lb : List Vl) (A1 A2 : Option Addr) (n1 n2 c1 c2 : Nat) (w : World) (hu : VolsAt w (.slice A1 n1 c1) la) (hv : VolsAt w (.slice A2 n2 c2) lb) (hl : n1 ≤ 1000000) (hl2 : n2 ≤ 1000000) (hm : ∀ x ∈ la, x.2.length ≤ 1000000) :
    Calls Tryd.prog 16 #[.slice A1 n1 c1, .slice A2 n2 c2] w fun e w' => e = .returned (.bool (decide (la = lb))) ∧ Below w.heap.size w w' := by
  have hln1 := vols_len hu
  have hln2 := vols_len hv
  obtain ⟨G, hG⟩ : ∃ G, decide (la = lb) = G := ⟨_, rfl⟩
  by_cases hlen : n1 = n2
  case neg =>
    have hG0 : G = false := by rw [← hG, decide_eq_false (fun h => hlen (by rw [← hln1, ← hln2, h]))]
    rw [hG, hG0]
    have hq : (n1 : Int) ≠ (n2 : Int) := by omega
    clear hu hv hG hlen hln1 hln2 hG0
    go_enter Tryd.func16, Tryd.ntmps16
    go_wp2_with fail
    go_ret
    exact ⟨rfl, Below.refl _ _⟩
  subst hlen
  obtain ⟨n, hn⟩ : ∃ n, n1 = n := ⟨_, rfl⟩
  subst hn
  have HF := Lib.hid (fun k (hk : k < la.length) => vols_get hu hk)
  have HF2 := Lib.hid (fun k (hk : k < lb.length) => vols_get hv hk)
  have HALL : Hid ((∀ i < n1, la[i]? = lb[i]?) → G = true) := Lib.hid fun h => by
    rw [← hG]
    refine decide_eq_true (List.ext_getElem? fun i => ?_)
    by_cases hi : i < n1
    · exact h i hi
    · rw [List.getElem?_eq_none (by omega), List.getElem?_eq_none (by omega)]
  have HNO : Hid (∀ k : Nat, la[k]? ≠ lb[k]? → G = false) := Lib.hid fun k h => by
    rw [← hG]; exact decide_eq_false (fun e => h (by rw [e]))
  have HL1 := Lib.hid hln1
  have HL2 := Lib.hid hln2
  have HMM := Lib.hid hm
  obtain ⟨n, hn⟩ : ∃ n, n1 = n := ⟨_, rfl⟩
  rw [hG]
  rw [hn] at HALL HL1 HL2 hl ⊢
  clear hu hv hG hl2 hln1 hln2 hn hm
  go_enter Tryd.func16, Tryd.ntmps16
  go_wp2_with fail
  go_loopw [5] (fun i wr => ∃ k : Nat, k ≤ n ∧ i = .int .i64 k ∧ Hid (∀ j < k, la[j]? = lb[j]?) ∧ Below w.heap.size w wr) (fun i _ => n - (intOf i).toNat)
  case atStart => exact ⟨0, by omega, rfl, Lib.hid fun j hj => by omega, Below.refl _ _⟩
  case round =>
    obtain ⟨k, hk, rfl, HE, hB⟩ := hrel
    have HB := Lib.hid hB
    clear hB
    by_cases hlt : k < n
    · obtain ⟨b1, o1, s1, d1, B1, m1, q1, hx1, rfl, hb1, hr1, hs1, hm1, _⟩ := HF.out k (by rw [HL1.out]; exact hlt)
      obtain ⟨b2, o2, s2, d2, B2, m2, q2, hx2, rfl, hb2, hr2, hs2, hm2, _⟩ := HF2.out k (by rw [HL2.out]; exact hlt)
      obtain ⟨O1, hO1⟩ : ∃ O, o1 + k * 2 = O := ⟨_, rfl⟩
      obtain ⟨O2, hO2⟩ : ∃ O, o2 + k * 2 = O := ⟨_, rfl⟩
      rw [hO1] at hr1
      rw [hO2] at hr2
      have HM1 : Hid (m1 ≤ 1000000) := Lib.hid (by rw [← hm1]; exact HMM.out _ (List.mem_of_getElem? hx1))
      have HX1 := Lib.hid hx1
      have HX2 := Lib.hid hx2
      have HC10 : Hid (w.cell? ⟨b1, O1, none⟩ = some (.string s1)) := Lib.hid (hr1 0 _ rfl)
      have HC11 : Hid (w.cell? ⟨b1, O1 + 1, none⟩ = some (.slice B1 m1 q1)) := Lib.hid (hr1 1 _ rfl)
      have HC20 : Hid (w.cell? ⟨b2, O2, none⟩ = some (.string s2)) := Lib.hid (hr2 0 _ rfl)
      have HC21 : Hid (w.cell? ⟨b2, O2 + 1, none⟩ = some (.slice B2 m2 q2)) := Lib.hid (hr2 1 _ rfl)
      have HW1 := Lib.hid hb1
      have HW2 := Lib.hid hb2
      have HS1 := Lib.hid hs1
      have HS2 := Lib.hid hs2
      have HO1 := Lib.hid hO1
      have HO2 := Lib.hid hO2
      have hk0 : (0 : Int) ≤ (k : Int) := by omega
      have hk1 : (k : Int) < (n : Int) := by omega
      clear hx1 hx2 hr1 hr2 hb1 hb2 hs1 hs2 hm1 hm2 hO1 hO2
      go_upto_region 6 with fail
      have hF0 : Wl [fun W => Below w.heap.size w W] 0 (World.drew _) := HB.out.drew
      by_cases hi : s1 = s2
      · by_cases hd : d1 = d2
        · have HQI : Hid (s1 = s2) := Lib.hid hi
          have HQD : Hid (decide (d1 = d2) = true) := Lib.hid (decide_eq_true hd)
          have HXY : Hid (((s1, d1) : Vl) = (s2, d2)) := Lib.hid (by rw [hi, hd])
          clear hi hd
          refine wp_region_phs [is (.slice (some ⟨b1, o1, none⟩) n c1), is (.int .i64 (k : Int)), is (.pointer (some ⟨b1, O1, none⟩)), is (.pointer (some ⟨b1, O1, none⟩)), is (.string s1), is (.slice (some ⟨b2, o2, none⟩) n c2), is (.int .i64 (k : Int)), is (.pointer (some ⟨b2, O2, none⟩)), is (.pointer (some ⟨b2, O2, none⟩)), is (.string s2), is (.bool false), is (.bool false), is (.slice (some ⟨b1, o1, none⟩) n c1), is (.int .i64 (k : Int)), is (.pointer (some ⟨b1, O1, none⟩)), is (.pointer (some ⟨b1, O1 + 1, none⟩)), is (.slice B1 m1 q1), is (.slice (some ⟨b2, o2, none⟩) n c2), is (.int .i64 (k : Int)), is (.pointer (some ⟨b2, O2, none⟩)), is (.pointer (some ⟨b2, O2 + 1, none⟩)), is (.slice B2 m2 q2), is (.bool true), is (.bool false), is (.bool false)] [true, true, true, true, true, true, true, true, true, true, true, true, true, true, true, true, true, true, true, true, true, true, true, true, true] [(fun W => Below w.heap.size w W)] [false, false, false, false, false, false, false, false, false, false, false, false, false, false, false, false, false, false, false, false, false, false, false, false, false] [some 0, some 0, some 0, some 0, some 0, some 0, some 0, some 0, some 0, some 0, some 0, some 0, some 0, some 0, some 0, some 0, some 0, some 0, some 0, some 0, some 0, some 0, some 0, some 0, some 0] [some 17, some 18, some 19, some 20, some 21, some 22, some 23, some 24, some 25, some 26, some 27, some 28, some 29, some 30, some 31, some 32, some 33, some 34, some 35, some 36, some 37, some 38, some 39, some 40, some 41] 25 0 (fun _ => true) rfl rfl (by kernel_rfl) (by kernel_rfl) (by kernel_rfl) (by kernel_rfl) ?_ ?_ ?_ ?_ ?_ ?_
          · repeat first | exact wok_nil | refine wok_cons (by first | exact fun _ _ h k => h.trans (k.mono h.size)) ?_
          · repeat first | exact vok_nil | refine vok_rig (by first | exact fun _ _ _ h => h) ?_ | refine vok_soft (by first | exact fun _ _ _ h _ => h) ?_
          · exact hF0
          · repeat first | exact all_end (by decide) | refine all_cons (by first | exact rfl | exact ⟨rfl, fun _ _ h => Or.inl h⟩ | exact ⟨rfl, fun _ _ h => Or.inr ⟨h, rfl⟩⟩) ?_
          · refine allp_mild 0 rfl rfl rfl (fun a x_ W hout hin hP => ?_) ?_
            · have e0 : a.tmps[0]? = some (.slice (some ⟨b1, o1, none⟩) n c1) := (hout 0 (by kernel_rfl)).trans rfl
              exact does_move rfl e0 ⟨Same.refl _, rfl⟩
            refine allp_mild 0 rfl rfl rfl (fun a x_ W hout hin hP => ?_) ?_
            · have e5 : a.tmps[5]? = some (.int .i64 (k : Int)) := (hout 5 (by kernel_rfl)).trans rfl
              exact does_move rfl e5 ⟨Same.refl _, rfl⟩
            refine allp_mild 0 rfl rfl rfl (fun a x_ W hout hin hP => ?_) ?_
            · have e17 := hin.is 0 17 (by kernel_rfl) (by decide) (by kernel_rfl) (by kernel_rfl) _ rfl
              have e18 := hin.is 1 18 (by kernel_rfl) (by decide) (by kernel_rfl) (by kernel_rfl) _ rfl
              have hO := HO1.out
              clear hin hout
              intro K Q hK
              go_simp
              exact hK _ _ ⟨Same.refl _, rfl⟩
            refine allp_mild 0 rfl rfl rfl (fun a x_ W hout hin hP => ?_) ?_
            · have e19 := hin.is 2 19 (by kernel_rfl) (by decide) (by kernel_rfl) (by kernel_rfl) _ rfl
              clear hin hout
              intro K Q hK
              go_simp
              exact hK _ _ ⟨Same.refl _, rfl⟩
            refine allp_mild 0 rfl rfl rfl (fun a x_ W hout hin hP => ?_) ?_
            · have e20 := hin.is 3 20 (by kernel_rfl) (by decide) (by kernel_rfl) (by kernel_rfl) _ rfl
              have hc : W.cell? ⟨b1, O1, none⟩ = some (.string s1) := (hP.cell (p := ⟨b1, O1, none⟩) HW1.out).trans (HC10.out)
              clear hP
              clear hin hout
              intro K Q hK
              go_simp
              exact hK _ _ ⟨Same.refl _, rfl⟩
            refine allp_mild 0 rfl rfl rfl (fun a x_ W hout hin hP => ?_) ?_
            · have e1 : a.tmps[1]? = some (.slice (some ⟨b2, o2, none⟩) n c2) := (hout 1 (by kernel_rfl)).trans rfl
              exact does_move rfl e1 ⟨Same.refl _, rfl⟩
            refine allp_mild 0 rfl rfl rfl (fun a x_ W hout hin hP => ?_) ?_
            · have e5 : a.tmps[5]? = some (.int .i64 (k : Int)) := (hout 5 (by kernel_rfl)).trans rfl
              exact does_move rfl e5 ⟨Same.refl _, rfl⟩
            refine allp_mild 0 rfl rfl rfl (fun a x_ W hout hin hP => ?_) ?_
            · have e22 := hin.is 5 22 (by kernel_rfl) (by decide) (by kernel_rfl) (by kernel_rfl) _ rfl
              have e23 := hin.is 6 23 (by kernel_rfl) (by decide) (by kernel_rfl) (by kernel_rfl) _ rfl
              have hO := HO2.out
              clear hin hout
              intro K Q hK
              go_simp
              exact hK _ _ ⟨Same.refl _, rfl⟩
            refine allp_mild 0 rfl rfl rfl (fun a x_ W hout hin hP => ?_) ?_
            · have e24 := hin.is 7 24 (by kernel_rfl) (by decide) (by kernel_rfl) (by kernel_rfl) _ rfl
              clear hin hout
              intro K Q hK
              go_simp
              exact hK _ _ ⟨Same.refl _, rfl⟩
            refine allp_mild 0 rfl rfl rfl (fun a x_ W hout hin hP => ?_) ?_
            · have e25 := hin.is 8 25 (by kernel_rfl) (by decide) (by kernel_rfl) (by kernel_rfl) _ rfl
              have hc : W.cell? ⟨b2, O2, none⟩ = some (.string s2) := (hP.cell (p := ⟨b2, O2, none⟩) HW2.out).trans (HC20.out)
              clear hP
              clear hin hout
              intro K Q hK
              go_simp
              exact hK _ _ ⟨Same.refl _, rfl⟩
            refine allp_mild 0 rfl rfl rfl (fun a x_ W hout hin hP => ?_) ?_
            · have e21 := hin.is 4 21 (by kernel_rfl) (by decide) (by kernel_rfl) (by kernel_rfl) _ rfl
              have e26 := hin.is 9 26 (by kernel_rfl) (by decide) (by kernel_rfl) (by kernel_rfl) _ rfl
              have hq := HQI.out
              clear hP
              clear hin hout
              intro K Q hK
              go_simp
              exact hK _ _ ⟨Same.refl _, rfl⟩
            refine allp_mild 0 rfl rfl rfl (fun a x_ W hout hin hP => ?_) ?_
            · have e27 := hin.is 10 27 (by kernel_rfl) (by decide) (by kernel_rfl) (by kernel_rfl) _ rfl
              exact does_move rfl e27 ⟨Same.refl _, rfl⟩
            refine allp_mild 0 rfl rfl rfl (fun a x_ W hout hin hP => ?_) ?_
            · have e0 : a.tmps[0]? = some (.slice (some ⟨b1, o1, none⟩) n c1) := (hout 0 (by kernel_rfl)).trans rfl
              exact does_move rfl e0 ⟨Same.refl _, rfl⟩
            refine allp_mild 0 rfl rfl rfl (fun a x_ W hout hin hP => ?_) ?_
            · have e5 : a.tmps[5]? = some (.int .i64 (k : Int)) := (hout 5 (by kernel_rfl)).trans rfl
              exact does_move rfl e5 ⟨Same.refl _, rfl⟩
            refine allp_mild 0 rfl rfl rfl (fun a x_ W hout hin hP => ?_) ?_
            · have e29 := hin.is 12 29 (by kernel_rfl) (by decide) (by kernel_rfl) (by kernel_rfl) _ rfl
              have e30 := hin.is 13 30 (by kernel_rfl) (by decide) (by kernel_rfl) (by kernel_rfl) _ rfl
              have hO := HO1.out
              clear hin hout
              intro K Q hK
              go_simp
              exact hK _ _ ⟨Same.refl _, rfl⟩
            refine allp_mild 0 rfl rfl rfl (fun a x_ W hout hin hP => ?_) ?_
            · have e31 := hin.is 14 31 (by kernel_rfl) (by decide) (by kernel_rfl) (by kernel_rfl) _ rfl
              clear hin hout
              intro K Q hK
              go_simp
              exact hK _ _ ⟨Same.refl _, rfl⟩
            refine allp_mild 0 rfl rfl rfl (fun a x_ W hout hin hP => ?_) ?_
            · have e32 := hin.is 15 32 (by kernel_rfl) (by decide) (by kernel_rfl) (by kernel_rfl) _ rfl
              have hc : W.cell? ⟨b1, O1 + 1, none⟩ = some (.slice B1 m1 q1) := (hP.cell (p := ⟨b1, O1 + 1, none⟩) HW1.out).trans (HC11.out)
              clear hP
              clear hin hout
              intro K Q hK
              go_simp
              exact hK _ _ ⟨Same.refl _, rfl⟩
            refine allp_mild 0 rfl rfl rfl (fun a x_ W hout hin hP => ?_) ?_
            · have e1 : a.tmps[1]? = some (.slice (some ⟨b2, o2, none⟩) n c2) := (hout 1 (by kernel_rfl)).trans rfl
              exact does_move rfl e1 ⟨Same.refl _, rfl⟩
            refine allp_mild 0 rfl rfl rfl (fun a x_ W hout hin hP => ?_) ?_
            · have e5 : a.tmps[5]? = some (.int .i64 (k : Int)) := (hout 5 (by kernel_rfl)).trans rfl
              exact does_move rfl e5 ⟨Same.refl _, rfl⟩
            refine allp_mild 0 rfl rfl rfl (fun a x_ W hout hin hP => ?_) ?_
            · have e34 := hin.is 17 34 (by kernel_rfl) (by decide) (by kernel_rfl) (by kernel_rfl) _ rfl
              have e35 := hin.is 18 35 (by kernel_rfl) (by decide) (by kernel_rfl) (by kernel_rfl) _ rfl
              have hO := HO2.out
              clear hin hout
              intro K Q hK
              go_simp
              exact hK _ _ ⟨Same.refl _, rfl⟩
            refine allp_mild 0 rfl rfl rfl (fun a x_ W hout hin hP => ?_) ?_
            · have e36 := hin.is 19 36 (by kernel_rfl) (by decide) (by kernel_rfl) (by kernel_rfl) _ rfl
              clear hin hout
              intro K Q hK
              go_simp
              exact hK _ _ ⟨Same.refl _, rfl⟩
            refine allp_mild 0 rfl rfl rfl (fun a x_ W hout hin hP => ?_) ?_
            · have e37 := hin.is 20 37 (by kernel_rfl) (by decide) (by kernel_rfl) (by kernel_rfl) _ rfl
              have hc : W.cell? ⟨b2, O2 + 1, none⟩ = some (.slice B2 m2 q2) := (hP.cell (p := ⟨b2, O2 + 1, none⟩) HW2.out).trans (HC21.out)
              clear hP
              clear hin hout
              intro K Q hK
              go_simp
              exact hK _ _ ⟨Same.refl _, rfl⟩
            refine allp_mild 0 rfl rfl rfl (fun a x_ W hout hin hP => ?_) ?_
            · have e33 := hin.is 16 33 (by kernel_rfl) (by decide) (by kernel_rfl) (by kernel_rfl) _ rfl
              have e38 := hin.is 21 38 (by kernel_rfl) (by decide) (by kernel_rfl) (by kernel_rfl) _ rfl
              have C := keepints_any _ _ _ _ _ _ _ _ W (HS1.out.below hP (Nat.le_refl _)) (HS2.out.below hP (Nat.le_refl _)) HM1.out
              rw [HQD.out] at C
              clear hP
              clear hin hout
              intro K Q hK
              go_simp
              refine C.mono ?_
              rintro e W' ⟨rfl, hb⟩
              exact hK _ _ ⟨hb, rfl⟩
            refine allp_mild 0 rfl rfl rfl (fun a x_ W hout hin hP => ?_) ?_
            · have e39 := hin.is 22 39 (by kernel_rfl) (by decide) (by kernel_rfl) (by kernel_rfl) _ rfl
              exact does_not rfl e39 ⟨Same.refl _, rfl⟩
            refine allp_mild 0 rfl rfl rfl (fun a x_ W hout hin hP => ?_) ?_
            · have e28 := hin.is 11 28 (by kernel_rfl) (by decide) (by kernel_rfl) (by kernel_rfl) _ rfl
              have e40 := hin.is 23 40 (by kernel_rfl) (by decide) (by kernel_rfl) (by kernel_rfl) _ rfl
              exact does_pick rfl e28 ⟨Same.refl _, eval_of_get e40⟩
            exact all_end (by decide)
          · intro x_ W hP hV
            have hB9 := hP
            have h24 : x_ 24 = .bool false := hV 24 (by decide) (.inl (by kernel_rfl))
            clear hP hV
            simp only [putL, Act.put, List.setIfInBounds_toArray, List.set_cons_succ, List.set_cons_zero, h24]
            refine wpAnyH_done (by kernel_rfl) ?_ _
            clear h24
            go_wp2_with fail
            refine ⟨⟨k + 1, by omega, by go_num, Lib.hid fun i hi => ?_, hB9⟩, by simp [intOf] <;> omega⟩
            rcases Nat.lt_or_eq_of_le (Nat.le_of_lt_succ hi) with h | rfl
            · exact HE.out i h
            · rw [HX1.out, HX2.out, HXY.out]

        · have HQI : Hid (s1 = s2) := Lib.hid hi
          have HQD : Hid (decide (d1 = d2) = false) := Lib.hid (decide_eq_false hd)
          have HXY : Hid (¬ ((s1, d1) : Vl) = (s2, d2)) := Lib.hid (fun h => hd (by injection h))
          clear hi hd
          refine wp_region_phs [is (.slice (some ⟨b1, o1, none⟩) n c1), is (.int .i64 (k : Int)), is (.pointer (some ⟨b1, O1, none⟩)), is (.pointer (some ⟨b1, O1, none⟩)), is (.string s1), is (.slice (some ⟨b2, o2, none⟩) n c2), is (.int .i64 (k : Int)), is (.pointer (some ⟨b2, O2, none⟩)), is (.pointer (some ⟨b2, O2, none⟩)), is (.string s2), is (.bool false), is (.bool false), is (.slice (some ⟨b1, o1, none⟩) n c1), is (.int .i64 (k : Int)), is (.pointer (some ⟨b1, O1, none⟩)), is (.pointer (some ⟨b1, O1 + 1, none⟩)), is (.slice B1 m1 q1), is (.slice (some ⟨b2, o2, none⟩) n c2), is (.int .i64 (k : Int)), is (.pointer (some ⟨b2, O2, none⟩)), is (.pointer (some ⟨b2, O2 + 1, none⟩)), is (.slice B2 m2 q2), is (.bool false), is (.bool true), is (.bool true)] [true, true, true, true, true, true, true, true, true, true, true, true, true, true, true, true, true, true, true, true, true, true, true, true, true] [(fun W => Below w.heap.size w W)] [false, false, false, false, false, false, false, false, false, false, false, false, false, false, false, false, false, false, false, false, false, false, false, false, false] [some 0, some 0, some 0, some 0, some 0, some 0, some 0, some 0, some 0, some 0, some 0, some 0, some 0, some 0, some 0, some 0, some 0, some 0, some 0, some 0, some 0, some 0, some 0, some 0, some 0] [some 17, some 18, some 19, some 20, some 21, some 22, some 23, some 24, some 25, some 26, some 27, some 28, some 29, some 30, some 31, some 32, some 33, some 34, some 35, some 36, some 37, some 38, some 39, some 40, some 41] 25 0 (fun _ => true) rfl rfl (by kernel_rfl) (by kernel_rfl) (by kernel_rfl) (by kernel_rfl) ?_ ?_ ?_ ?_ ?_ ?_
          · repeat first | exact wok_nil | refine wok_cons (by first | exact fun _ _ h k => h.trans (k.mono h.size)) ?_
          · repeat first | exact vok_nil | refine vok_rig (by first | exact fun _ _ _ h => h) ?_ | refine vok_soft (by first | exact fun _ _ _ h _ => h) ?_
          · exact hF0
          · repeat first | exact all_end (by decide) | refine all_cons (by first | exact rfl | exact ⟨rfl, fun _ _ h => Or.inl h⟩ | exact ⟨rfl, fun _ _ h => Or.inr ⟨h, rfl⟩⟩) ?_
          · refine allp_mild 0 rfl rfl rfl (fun a x_ W hout hin hP => ?_) ?_
            · have e0 : a.tmps[0]? = some (.slice (some ⟨b1, o1, none⟩) n c1) := (hout 0 (by kernel_rfl)).trans rfl
              exact does_move rfl e0 ⟨Same.refl _, rfl⟩
            refine allp_mild 0 rfl rfl rfl (fun a x_ W hout hin hP => ?_) ?_
            · have e5 : a.tmps[5]? = some (.int .i64 (k : Int)) := (hout 5 (by kernel_rfl)).trans rfl
              exact does_move rfl e5 ⟨Same.refl _, rfl⟩
            refine allp_mild 0 rfl rfl rfl (fun a x_ W hout hin hP => ?_) ?_
            · have e17 := hin.is 0 17 (by kernel_rfl) (by decide) (by kernel_rfl) (by kernel_rfl) _ rfl
              have e18 := hin.is 1 18 (by kernel_rfl) (by decide) (by kernel_rfl) (by kernel_rfl) _ rfl
              have hO := HO1.out
              clear hin hout
              intro K Q hK
              go_simp
              exact hK _ _ ⟨Same.refl _, rfl⟩
            refine allp_mild 0 rfl rfl rfl (fun a x_ W hout hin hP => ?_) ?_
            · have e19 := hin.is 2 19 (by kernel_rfl) (by decide) (by kernel_rfl) (by kernel_rfl) _ rfl
              clear hin hout
              intro K Q hK
              go_simp
              exact hK _ _ ⟨Same.refl _, rfl⟩
            refine allp_mild 0 rfl rfl rfl (fun a x_ W hout hin hP => ?_) ?_
            · have e20 := hin.is 3 20 (by kernel_rfl) (by decide) (by kernel_rfl) (by kernel_rfl) _ rfl
              have hc : W.cell? ⟨b1, O1, none⟩ = some (.string s1) := (hP.cell (p := ⟨b1, O1, none⟩) HW1.out).trans (HC10.out)
              clear hP
              clear hin hout
              intro K Q hK
              go_simp
              exact hK _ _ ⟨Same.refl _, rfl⟩
            refine allp_mild 0 rfl rfl rfl (fun a x_ W hout hin hP => ?_) ?_
            · have e1 : a.tmps[1]? = some (.slice (some ⟨b2, o2, none⟩) n c2) := (hout 1 (by kernel_rfl)).trans rfl
              exact does_move rfl e1 ⟨Same.refl _, rfl⟩
            refine allp_mild 0 rfl rfl rfl (fun a x_ W hout hin hP => ?_) ?_
            · have e5 : a.tmps[5]? = some (.int .i64 (k : Int)) := (hout 5 (by kernel_rfl)).trans rfl
              exact does_move rfl e5 ⟨Same.refl _, rfl⟩
            refine allp_mild 0 rfl rfl rfl (fun a x_ W hout hin hP => ?_) ?_
            · have e22 := hin.is 5 22 (by kernel_rfl) (by decide) (by kernel_rfl) (by kernel_rfl) _ rfl
              have e23 := hin.is 6 23 (by kernel_rfl) (by decide) (by kernel_rfl) (by kernel_rfl) _ rfl
              have hO := HO2.out
              clear hin hout
              intro K Q hK
              go_simp
              exact hK _ _ ⟨Same.refl _, rfl⟩
            refine allp_mild 0 rfl rfl rfl (fun a x_ W hout hin hP => ?_) ?_
            · have e24 := hin.is 7 24 (by kernel_rfl) (by decide) (by kernel_rfl) (by kernel_rfl) _ rfl
              clear hin hout
              intro K Q hK
              go_simp
              exact hK _ _ ⟨Same.refl _, rfl⟩
            refine allp_mild 0 rfl rfl rfl (fun a x_ W hout hin hP => ?_) ?_
            · have e25 := hin.is 8 25 (by kernel_rfl) (by decide) (by kernel_rfl) (by kernel_rfl) _ rfl
              have hc : W.cell? ⟨b2, O2, none⟩ = some (.string s2) := (hP.cell (p := ⟨b2, O2, none⟩) HW2.out).trans (HC20.out)
              clear hP
              clear hin hout
              intro K Q hK
              go_simp
              exact hK _ _ ⟨Same.refl _, rfl⟩
            refine allp_mild 0 rfl rfl rfl (fun a x_ W hout hin hP => ?_) ?_
            · have e21 := hin.is 4 21 (by kernel_rfl) (by decide) (by kernel_rfl) (by kernel_rfl) _ rfl
              have e26 := hin.is 9 26 (by kernel_rfl) (by decide) (by kernel_rfl) (by kernel_rfl) _ rfl
              have hq := HQI.out
              clear hP
              clear hin hout
              intro K Q hK
              go_simp
              exact hK _ _ ⟨Same.refl _, rfl⟩
            refine allp_mild 0 rfl rfl rfl (fun a x_ W hout hin hP => ?_) ?_
            · have e27 := hin.is 10 27 (by kernel_rfl) (by decide) (by kernel_rfl) (by kernel_rfl) _ rfl
              exact does_move rfl e27 ⟨Same.refl _, rfl⟩
            refine allp_mild 0 rfl rfl rfl (fun a x_ W hout hin hP => ?_) ?_
            · have e0 : a.tmps[0]? = some (.slice (some ⟨b1, o1, none⟩) n c1) := (hout 0 (by kernel_rfl)).trans rfl
              exact does_move rfl e0 ⟨Same.refl _, rfl⟩
            refine allp_mild 0 rfl rfl rfl (fun a x_ W hout hin hP => ?_) ?_
            · have e5 : a.tmps[5]? = some (.int .i64 (k : Int)) := (hout 5 (by kernel_rfl)).trans rfl
              exact does_move rfl e5 ⟨Same.refl _, rfl⟩
            refine allp_mild 0 rfl rfl rfl (fun a x_ W hout hin hP => ?_) ?_
            · have e29 := hin.is 12 29 (by kernel_rfl) (by decide) (by kernel_rfl) (by kernel_rfl) _ rfl
              have e30 := hin.is 13 30 (by kernel_rfl) (by decide) (by kernel_rfl) (by kernel_rfl) _ rfl
              have hO := HO1.out
              clear hin hout
              intro K Q hK
              go_simp
              exact hK _ _ ⟨Same.refl _, rfl⟩
            refine allp_mild 0 rfl rfl rfl (fun a x_ W hout hin hP => ?_) ?_
            · have e31 := hin.is 14 31 (by kernel_rfl) (by decide) (by kernel_rfl) (by kernel_rfl) _ rfl
              clear hin hout
              intro K Q hK
              go_simp
              exact hK _ _ ⟨Same.refl _, rfl⟩
            refine allp_mild 0 rfl rfl rfl (fun a x_ W hout hin hP => ?_) ?_
            · have e32 := hin.is 15 32 (by kernel_rfl) (by decide) (by kernel_rfl) (by kernel_rfl) _ rfl
              have hc : W.cell? ⟨b1, O1 + 1, none⟩ = some (.slice B1 m1 q1) := (hP.cell (p := ⟨b1, O1 + 1, none⟩) HW1.out).trans (HC11.out)
              clear hP
              clear hin hout
              intro K Q hK
              go_simp
              exact hK _ _ ⟨Same.refl _, rfl⟩
            refine allp_mild 0 rfl rfl rfl (fun a x_ W hout hin hP => ?_) ?_
            · have e1 : a.tmps[1]? = some (.slice (some ⟨b2, o2, none⟩) n c2) := (hout 1 (by kernel_rfl)).trans rfl
              exact does_move rfl e1 ⟨Same.refl _, rfl⟩
            refine allp_mild 0 rfl rfl rfl (fun a x_ W hout hin hP => ?_) ?_
            · have e5 : a.tmps[5]? = some (.int .i64 (k : Int)) := (hout 5 (by kernel_rfl)).trans rfl
              exact does_move rfl e5 ⟨Same.refl _, rfl⟩
            refine allp_mild 0 rfl rfl rfl (fun a x_ W hout hin hP => ?_) ?_
            · have e34 := hin.is 17 34 (by kernel_rfl) (by decide) (by kernel_rfl) (by kernel_rfl) _ rfl
              have e35 := hin.is 18 35 (by kernel_rfl) (by decide) (by kernel_rfl) (by kernel_rfl) _ rfl
              have hO := HO2.out
              clear hin hout
              intro K Q hK
              go_simp
              exact hK _ _ ⟨Same.refl _, rfl⟩
            refine allp_mild 0 rfl rfl rfl (fun a x_ W hout hin hP => ?_) ?_
            · have e36 := hin.is 19 36 (by kernel_rfl) (by decide) (by kernel_rfl) (by kernel_rfl) _ rfl
              clear hin hout
              intro K Q hK
              go_simp
              exact hK _ _ ⟨Same.refl _, rfl⟩
            refine allp_mild 0 rfl rfl rfl (fun a x_ W hout hin hP => ?_) ?_
            · have e37 := hin.is 20 37 (by kernel_rfl) (by decide) (by kernel_rfl) (by kernel_rfl) _ rfl
              have hc : W.cell? ⟨b2, O2 + 1, none⟩ = some (.slice B2 m2 q2) := (hP.cell (p := ⟨b2, O2 + 1, none⟩) HW2.out).trans (HC21.out)
              clear hP
              clear hin hout
              intro K Q hK
              go_simp
              exact hK _ _ ⟨Same.refl _, rfl⟩
            refine allp_mild 0 rfl rfl rfl (fun a x_ W hout hin hP => ?_) ?_
            · have e33 := hin.is 16 33 (by kernel_rfl) (by decide) (by kernel_rfl) (by kernel_rfl) _ rfl
              have e38 := hin.is 21 38 (by kernel_rfl) (by decide) (by kernel_rfl) (by kernel_rfl) _ rfl
              have C := keepints_any _ _ _ _ _ _ _ _ W (HS1.out.below hP (Nat.le_refl _)) (HS2.out.below hP (Nat.le_refl _)) HM1.out
              rw [HQD.out] at C
              clear hP
              clear hin hout
              intro K Q hK
              go_simp
              refine C.mono ?_
              rintro e W' ⟨rfl, hb⟩
              exact hK _ _ ⟨hb, rfl⟩
            refine allp_mild 0 rfl rfl rfl (fun a x_ W hout hin hP => ?_) ?_
            · have e39 := hin.is 22 39 (by kernel_rfl) (by decide) (by kernel_rfl) (by kernel_rfl) _ rfl
              exact does_not rfl e39 ⟨Same.refl _, rfl⟩
            refine allp_mild 0 rfl rfl rfl (fun a x_ W hout hin hP => ?_) ?_
            · have e28 := hin.is 11 28 (by kernel_rfl) (by decide) (by kernel_rfl) (by kernel_rfl) _ rfl
              have e40 := hin.is 23 40 (by kernel_rfl) (by decide) (by kernel_rfl) (by kernel_rfl) _ rfl
              exact does_pick rfl e28 ⟨Same.refl _, eval_of_get e40⟩
            exact all_end (by decide)
          · intro x_ W hP hV
            have hB9 := hP
            have h24 : x_ 24 = .bool true := hV 24 (by decide) (.inl (by kernel_rfl))
            clear hP hV
            simp only [putL, Act.put, List.setIfInBounds_toArray, List.set_cons_succ, List.set_cons_zero, h24]
            refine wpAnyH_done (by kernel_rfl) ?_ _
            clear h24
            have hG := HNO.out k (by rw [HX1.out, HX2.out]; exact fun h => HXY.out (Option.some.inj h))
            go_wp2_with fail
            go_ret
            exact ⟨by first | rfl | (rw [hG]; rfl), hB9⟩

      · have HQI : Hid ((s1.toList == s2.toList) = false) := Lib.hid (beq_eq_false_iff_ne.2 fun h => hi (str_ext h))
        have HXY : Hid (¬ ((s1, d1) : Vl) = (s2, d2)) := Lib.hid (fun h => hi (by injection h))
        clear hi
        refine wp_region_phs [is (.slice (some ⟨b1, o1, none⟩) n c1), is (.int .i64 (k : Int)), is (.pointer (some ⟨b1, O1, none⟩)), is (.pointer (some ⟨b1, O1, none⟩)), is (.string s1), is (.slice (some ⟨b2, o2, none⟩) n c2), is (.int .i64 (k : Int)), is (.pointer (some ⟨b2, O2, none⟩)), is (.pointer (some ⟨b2, O2, none⟩)), is (.string s2), is (.bool true), is (.bool true), is undef, is undef, is undef, is undef, is undef, is undef, is undef, is undef, is undef, is undef, is undef, is undef, is (.bool true)] [true, true, true, true, true, true, true, true, true, true, true, true, true, true, true, true, true, true, true, true, true, true, true, true, true] [(fun W => Below w.heap.size w W)] [false, false, false, false, false, false, false, false, false, false, false, false, false, false, false, false, false, false, false, false, false, false, false, false, false] [some 0, some 0, some 0, some 0, some 0, some 0, some 0, some 0, some 0, some 0, some 0, some 0, some 0, some 0, some 0, some 0, some 0, some 0, some 0, some 0, some 0, some 0, some 0, some 0, some 0] [some 17, some 18, some 19, some 20, some 21, some 22, some 23, some 24, some 25, some 26, some 27, some 28, some 29, some 30, some 31, some 32, some 33, some 34, some 35, some 36, some 37, some 38, some 39, some 40, some 41] 25 0 (fun i => !([12, 13, 14, 15, 16, 17, 18, 19, 20, 21, 22, 23] : List Nat).contains i) rfl rfl (by kernel_rfl) (by kernel_rfl) (by kernel_rfl) (by kernel_rfl) ?_ ?_ ?_ ?_ ?_ ?_
        · repeat first | exact wok_nil | refine wok_cons (by first | exact fun _ _ h k => h.trans (k.mono h.size)) ?_
        · repeat first | exact vok_nil | refine vok_rig (by first | exact fun _ _ _ h => h) ?_ | refine vok_soft (by first | exact fun _ _ _ h _ => h) ?_
        · exact hF0
        · repeat first | exact all_end (by decide) | refine all_cons (by first | exact rfl | exact ⟨rfl, fun _ _ h => Or.inl h⟩ | exact ⟨rfl, fun _ _ h => Or.inr ⟨h, rfl⟩⟩) ?_
        · refine allp_mild 0 rfl rfl rfl (fun a x_ W hout hin hP => ?_) ?_
          · have e0 : a.tmps[0]? = some (.slice (some ⟨b1, o1, none⟩) n c1) := (hout 0 (by kernel_rfl)).trans rfl
            exact does_move rfl e0 ⟨Same.refl _, rfl⟩
          refine allp_mild 0 rfl rfl rfl (fun a x_ W hout hin hP => ?_) ?_
          · have e5 : a.tmps[5]? = some (.int .i64 (k : Int)) := (hout 5 (by kernel_rfl)).trans rfl
            exact does_move rfl e5 ⟨Same.refl _, rfl⟩
          refine allp_mild 0 rfl rfl rfl (fun a x_ W hout hin hP => ?_) ?_
          · have e17 := hin.is 0 17 (by kernel_rfl) (by decide) (by kernel_rfl) (by kernel_rfl) _ rfl
            have e18 := hin.is 1 18 (by kernel_rfl) (by decide) (by kernel_rfl) (by kernel_rfl) _ rfl
            have hO := HO1.out
            clear hin hout
            intro K Q hK
            go_simp
            exact hK _ _ ⟨Same.refl _, rfl⟩
          refine allp_mild 0 rfl rfl rfl (fun a x_ W hout hin hP => ?_) ?_
          · have e19 := hin.is 2 19 (by kernel_rfl) (by decide) (by kernel_rfl) (by kernel_rfl) _ rfl
            clear hin hout
            intro K Q hK
            go_simp
            exact hK _ _ ⟨Same.refl _, rfl⟩
          refine allp_mild 0 rfl rfl rfl (fun a x_ W hout hin hP => ?_) ?_
          · have e20 := hin.is 3 20 (by kernel_rfl) (by decide) (by kernel_rfl) (by kernel_rfl) _ rfl
            have hc : W.cell? ⟨b1, O1, none⟩ = some (.string s1) := (hP.cell (p := ⟨b1, O1, none⟩) HW1.out).trans (HC10.out)
            clear hP
            clear hin hout
            intro K Q hK
            go_simp
            exact hK _ _ ⟨Same.refl _, rfl⟩
          refine allp_mild 0 rfl rfl rfl (fun a x_ W hout hin hP => ?_) ?_
          · have e1 : a.tmps[1]? = some (.slice (some ⟨b2, o2, none⟩) n c2) := (hout 1 (by kernel_rfl)).trans rfl
            exact does_move rfl e1 ⟨Same.refl _, rfl⟩
          refine allp_mild 0 rfl rfl rfl (fun a x_ W hout hin hP => ?_) ?_
          · have e5 : a.tmps[5]? = some (.int .i64 (k : Int)) := (hout 5 (by kernel_rfl)).trans rfl
            exact does_move rfl e5 ⟨Same.refl _, rfl⟩
          refine allp_mild 0 rfl rfl rfl (fun a x_ W hout hin hP => ?_) ?_
          · have e22 := hin.is 5 22 (by kernel_rfl) (by decide) (by kernel_rfl) (by kernel_rfl) _ rfl
            have e23 := hin.is 6 23 (by kernel_rfl) (by decide) (by kernel_rfl) (by kernel_rfl) _ rfl
            have hO := HO2.out
            clear hin hout
            intro K Q hK
            go_simp
            exact hK _ _ ⟨Same.refl _, rfl⟩
          refine allp_mild 0 rfl rfl rfl (fun a x_ W hout hin hP => ?_) ?_
          · have e24 := hin.is 7 24 (by kernel_rfl) (by decide) (by kernel_rfl) (by kernel_rfl) _ rfl
            clear hin hout
            intro K Q hK
            go_simp
            exact hK _ _ ⟨Same.refl _, rfl⟩
          refine allp_mild 0 rfl rfl rfl (fun a x_ W hout hin hP => ?_) ?_
          · have e25 := hin.is 8 25 (by kernel_rfl) (by decide) (by kernel_rfl) (by kernel_rfl) _ rfl
            have hc : W.cell? ⟨b2, O2, none⟩ = some (.string s2) := (hP.cell (p := ⟨b2, O2, none⟩) HW2.out).trans (HC20.out)
            clear hP
            clear hin hout
            intro K Q hK
            go_simp
            exact hK _ _ ⟨Same.refl _, rfl⟩
          refine allp_mild 0 rfl rfl rfl (fun a x_ W hout hin hP => ?_) ?_
          · have e21 := hin.is 4 21 (by kernel_rfl) (by decide) (by kernel_rfl) (by kernel_rfl) _ rfl
            have e26 := hin.is 9 26 (by kernel_rfl) (by decide) (by kernel_rfl) (by kernel_rfl) _ rfl
            have hq := HQI.out
            clear hP
            clear hin hout
            intro K Q hK
            go_simp
            exact hK _ _ ⟨Same.refl _, rfl⟩
          refine allp_mild 0 rfl rfl rfl (fun a x_ W hout hin hP => ?_) ?_
          · have e27 := hin.is 10 27 (by kernel_rfl) (by decide) (by kernel_rfl) (by kernel_rfl) _ rfl
            exact does_move rfl e27 ⟨Same.refl _, rfl⟩
          refine allp_skip rfl rfl (fun _ => rfl) ?_
          refine allp_skip rfl rfl (fun _ => rfl) ?_
          refine allp_skip rfl rfl (fun _ => rfl) ?_
          refine allp_skip rfl rfl (fun _ => rfl) ?_
          refine allp_skip rfl rfl (fun _ => rfl) ?_
          refine allp_skip rfl rfl (fun _ => rfl) ?_
          refine allp_skip rfl rfl (fun _ => rfl) ?_
          refine allp_skip rfl rfl (fun _ => rfl) ?_
          refine allp_skip rfl rfl (fun _ => rfl) ?_
          refine allp_skip rfl rfl (fun _ => rfl) ?_
          refine allp_skip rfl rfl (fun _ => rfl) ?_
          refine allp_skip rfl rfl (fun _ => rfl) ?_
          refine allp_mild 0 rfl rfl rfl (fun a x_ W hout hin hP => ?_) ?_
          · have e28 := hin.is 11 28 (by kernel_rfl) (by decide) (by kernel_rfl) (by kernel_rfl) _ rfl
            have e40 := hin.is 23 40 (by kernel_rfl) (by decide) (by kernel_rfl) (by kernel_rfl) _ rfl
            exact does_pick rfl e28 ⟨Same.refl _, rfl⟩
          exact all_end (by decide)
        · intro x_ W hP hV
          have hB9 := hP
          have h24 : x_ 24 = .bool true := hV 24 (by decide) (.inl (by kernel_rfl))
          clear hP hV
          simp only [putL, Act.put, List.setIfInBounds_toArray, List.set_cons_succ, List.set_cons_zero, h24]
          refine wpAnyH_done (by kernel_rfl) ?_ _
          clear h24
          have hG := HNO.out k (by rw [HX1.out, HX2.out]; exact fun h => HXY.out (Option.some.inj h))
          go_wp2_with fail
          go_ret
          exact ⟨by first | rfl | (rw [hG]; rfl), hB9⟩

    · obtain rfl : k = n := by omega
      have hG := HALL.out HE.out
      go_wp2_with fail
      go_ret
      exact ⟨by first | rfl | (rw [hG]; rfl), HB.out⟩
end Go.Proofs.YtpmedgibnnonkaaDoor

/- Tables: the law wakes. -/
set_option maxRecDepth 4000
namespace Go.Proofs.YtpmedgibnnonkaaDoor
open Go Go.RowKit
theorem wk_good : goodT [([97#8, 98#8], [3]), ([99#8], [1, 2])] = true := by decide +kernel
theorem wk_bad : goodT [([97#8, 98#8], [3]), ([97#8, 98#8], [3])] = false := by decide +kernel
theorem wk_E : encE [([97#8, 98#8], [3]), ([99#8], [1, 2])] = 0 := encE_z.2 wk_good
theorem wk_f1 : findI [99#8] [([97#8, 98#8], [3]), ([99#8], [1, 2])] = 1 := by decide +kernel
theorem wk_f2 : findI [120#8] [([97#8, 98#8], [3]), ([99#8], [1, 2])] = -1 := by decide +kernel
theorem wk_d1 : decE (encT [([97#8, 98#8], [3]), ([99#8], [1, 2])]) = 0 := (tab_back wk_good).2.1
theorem wk_d2 : decLT (encT [([97#8, 98#8], [3]), ([99#8], [1, 2])]) = [([97#8, 98#8], [3]), ([99#8], [1, 2])] := (tab_back wk_good).1
theorem wk_z1 : decE (zer 32) = 0 := by decide +kernel
theorem wk_z2 : decLT (zer 32) = [] := by decide +kernel
theorem wk_at0 : (encT [([97#8, 98#8], [3]), ([99#8], [1, 2])]).getD 0 0#8 = 2#8 := by decide +kernel
theorem wk_at1 : (encT [([97#8, 98#8], [3]), ([99#8], [1, 2])]).getD 1 0#8 = 97#8 := by decide +kernel
theorem wk_at5 : (encT [([97#8, 98#8], [3]), ([99#8], [1, 2])]).getD 5 0#8 = 1#8 := by decide +kernel
theorem wk_at6 : (encT [([97#8, 98#8], [3]), ([99#8], [1, 2])]).getD 6 0#8 = 3#8 := by decide +kernel
theorem wk_at10 : (encT [([97#8, 98#8], [3]), ([99#8], [1, 2])]).getD 10 0#8 = 99#8 := by decide +kernel
theorem decLT_len (q : List (BitVec 8)) : (decLT q).length ≤ 3 := by
  unfold decLT
  split
  · rename_i h; exact (goodT_parts (by rw [← (dec_good h).1]; exact (okD_parts h).1)).1
  · exact Nat.zero_le _
theorem decLT_small (q : List (BitVec 8)) : ∀ x ∈ decLT q, x.2.length ≤ 1000000 := fun x hx => by
  unfold decLT decQ at hx
  split at hx
  · obtain ⟨j, _, rfl⟩ := List.mem_map.1 hx
    exact Nat.le_trans (fromL_len _) (by decide)
  · cases hx
set_option maxHeartbeats 3200000 in
theorem tabwakes_any (w : World) : Calls Tryd.prog 8 #[] w fun e w' => e = .returned (.bool true) ∧ Below w.heap.size w w' := by
  have HS := St.nil w noF
  refine enter_en Tryd.func8 rfl Tryd.ntmps8 (Nat.le_of_ble_eq_true rfl) fun a0 (HA0 : En 98 [] a0) => ?_
  refine sq_ <| rl_ <| wl_ <| p_ HA0 rfl rfl fun a1 H1 => ln_ <| nx <| sq_ <| rl_ <| wl_ <| n_ H1 rfl (fun _ h => dd_lits HS #[.int .i64 3] rfl (ps := [(0, .int .i64 3)]) (pr1 rfl (pr0)) (z := .int .i64 0) (sz := 1) Tryd.underlying43 (by kernel_rfl) rfl rfl (by kernel_rfl) h) fun g8 W2 HS2 a2 H2 => wl_ <| i_ H2 rfl (v := .agg #[.string (⟨#[97, 98]⟩), .slice (some ⟨g8, 0, none⟩) 1 1]) (dd_bld rfl (ps := [(0, .string (⟨#[97, 98]⟩)), (1, .slice (some ⟨g8, 0, none⟩) 1 1)]) (pr1 rfl (pr1 (H2.ev 8 rfl) (pr0))) (Lz := [[.string (⟨#[]⟩)], [.slice none 0 0]]) (by kernel_rfl) (lens_cons rfl (lens_cons rfl (lens_nil))) (fit_cons (i := 0) rfl rfl (fit_cons (i := 1) rfl rfl (fit_nil))) (cs := #[.string (⟨#[97, 98]⟩), .slice (some ⟨g8, 0, none⟩) 1 1]) rfl) fun a3 H3 => wl_ <| n_ H3 rfl (fun _ h => dd_lits HS2 #[.int .i64 1, .int .i64 2] rfl (ps := [(0, .int .i64 1), (1, .int .i64 2)]) (pr1 rfl (pr1 rfl (pr0))) (z := .int .i64 0) (sz := 1) Tryd.underlying43 (by kernel_rfl) rfl rfl (by kernel_rfl) h) fun g10 W4 HS4 a4 H4 => wl_ <| i_ H4 rfl (v := .agg #[.string (⟨#[99]⟩), .slice (some ⟨g10, 0, none⟩) 2 2]) (dd_bld rfl (ps := [(0, .string (⟨#[99]⟩)), (1, .slice (some ⟨g10, 0, none⟩) 2 2)]) (pr1 rfl (pr1 (H4.ev 10 rfl) (pr0))) (Lz := [[.string (⟨#[]⟩)], [.slice none 0 0]]) (by kernel_rfl) (lens_cons rfl (lens_cons rfl (lens_nil))) (fit_cons (i := 0) rfl rfl (fit_cons (i := 1) rfl rfl (fit_nil))) (cs := #[.string (⟨#[99]⟩), .slice (some ⟨g10, 0, none⟩) 2 2]) rfl) fun a5 H5 => wl_ <| n_ H5 rfl (fun _ h => dd_lits HS4 #[.string (⟨#[97, 98]⟩), .slice (some ⟨g8, 0, none⟩) 1 1, .string (⟨#[99]⟩), .slice (some ⟨g10, 0, none⟩) 2 2] rfl (ps := [(0, .agg #[.string (⟨#[97, 98]⟩), .slice (some ⟨g8, 0, none⟩) 1 1]), (1, .agg #[.string (⟨#[99]⟩), .slice (some ⟨g10, 0, none⟩) 2 2])]) (pr1 (H5.ev 9 rfl) (pr1 (H5.ev 11 rfl) (pr0))) (z := .agg #[.string (⟨#[]⟩), .slice none 0 0]) (sz := 2) Tryd.underlying22 (by kernel_rfl) rfl rfl (by kernel_rfl) h) fun g12 W6 HS6 a6 H6 => wl_ <| p_ H6 rfl rfl fun a7 H7 => ln_ <| nx <| sq_ <| rl_ <| wl_ <| p_ H7 rfl rfl fun a8 H8 => ?_
  clear HA0 a0 HS H1 a1 H2 a2 HS2 H3 a3 H4 a4 HS4 H5 a5 H6 a6
  refine wl_ <| c_ H8 rfl HS6 (v := .tuple #[.agg (bs (encT ([([97#8, 98#8], [3]), ([99#8], [1, 2])]))), .int .i64 0]) (dc_ Tryd.func10 rfl (args1 (H8.ev 14 rfl)) (enct_any _ _ _ ([([97#8, 98#8], [3]), ([99#8], [1, 2])]) W6 (vols_row (l := volL [([97#8, 98#8], [3]), ([99#8], [1, 2])]) (HS6.row 2 rfl) (Nat.le_refl _) (by decide) (get_consP (volAt_of (p := [97#8, 98#8]) (L := [3]) (ints_rowI (HS6.row 0 rfl) (by decide) (by decide)) (by decide)) (get_consP (volAt_of (p := [99#8]) (L := [1, 2]) (ints_rowI (HS6.row 1 rfl) (by decide) (by decide)) (by decide)) (get_nilP)))) (by decide) (by decide)) (fun _ w9 h9 => ⟨_, by rw [wk_E] at h9; exact h9.1, rfl, h9.2⟩)) fun W9 HS9 a9 H9 => wl_ <| p_ H9 rfl rfl fun a10 H10 => wl_ <| i_ H10 rfl (dd_ext rfl (H10.ev 13 rfl) rfl) fun a11 H11 => wl_ <| i_ H11 rfl (dd_ext rfl (H11.ev 13 rfl) rfl) fun a12 H12 => wl_ <| n_ H12 rfl (fun _ h => dd_new HS9 (bs (zer 32)) rfl (z := .agg (bs (zer 32))) (by kernel_rfl) rfl h) fun g2 W13 HS13 a13 H13 => wl_ <| t_ rfl (fun _ h => dd_setrow HS13 3 rfl rfl (H13.ev 2 rfl) (H13.ev 16 rfl) (by kernel_rfl) (((size_bs _).trans (length_encT _)) : (bs (encT ([([97#8, 98#8], [3]), ([99#8], [1, 2])]))).size = 32) (((size_bs _).trans (length_zer 32)) : (bs (zer 32)).size = 32) (one_bs _) h) fun W14 HS14 => wl_ <| p_ H13 rfl rfl fun a15 H15 => ln_ <| nx <| sq_ <| rl_ <| wl_ <| i_ H15 rfl (v := .agg (bs (encT ([([97#8, 98#8], [3]), ([99#8], [1, 2])])))) (dd_load HS14 3 0 rfl rfl (H15.ev 2 rfl) (slab_whole _) Tryd.underlying24 rfl (by rw [show (bs (encT ([([97#8, 98#8], [3]), ([99#8], [1, 2])]))).size = 32 from ((size_bs _).trans (length_encT _))]; kernel_rfl)) fun a16 H16 => ?_
  clear H7 a7 H8 a8 HS6 H9 a9 H10 a10 H11 a11 HS9 H12 a12 HS13 H13 a13
  clear H15 a15
  refine wl_ <| d_ H16 rfl (R := fun v w9 => ∃ A18 C18, v = .tuple #[.slice A18 2 C18, .int .i64 0] ∧ ((volL ([([97#8, 98#8], [3]), ([99#8], [1, 2])])).length = 2 ∧ 2 ≤ 3) ∧ (OV W14.heap.size w9 (.slice A18 2 C18) (volL ([([97#8, 98#8], [3]), ([99#8], [1, 2])]))) ∧ Below W14.heap.size W14 w9) (dc_ Tryd.func12 rfl (args1 (H16.ev 19 rfl)) (dect_any (encT ([([97#8, 98#8], [3]), ([99#8], [1, 2])])) W14 (length_encT _)) (fun _ w9 ⟨v9, he, ho, hb⟩ => by rw [wk_d1] at he; rw [wk_d2] at ho; obtain ⟨A9, n9, c9, rfl, h1, _⟩ := OV.form2 ho; obtain rfl : n9 = 2 := h1.symm; exact ⟨_, he, A9, c9, rfl, ⟨h1, (by decide)⟩, ho, hb⟩)) ?_
  rintro _ W17 ⟨A18, C18, rfl, hNd18, hov18, hb17⟩ a17 H17
  have HS17 := HS14.same hb17
  clear H16 a16
  have HBs19 : Below w.heap.size w W17 := HS17.below
  have HR19_0 := fun (W9 : World) (hb9 : Below W17.heap.size W17 W9) => (HS17.row 0 rfl).call hb9
  have HR19_1 := fun (W9 : World) (hb9 : Below W17.heap.size W17 W9) => (HS17.row 1 rfl).call hb9
  have HR19_2 := fun (W9 : World) (hb9 : Below W17.heap.size W17 W9) => (HS17.row 2 rfl).call hb9
  have HR19_3 := fun (W9 : World) (hb9 : Below W17.heap.size W17 W9) => (HS17.row 3 rfl).call hb9
  have HSb19 := St.nil W17 noF
  clear HS17
  have HVd18 := fun (W9 : World) (hb9 : Below W17.heap.size W17 W9) => ((hov18.vols (Nat.le_trans (Nat.le_of_eq hNd18.1) (Nat.le_trans hNd18.2 (by decide)))).below hb9 (Nat.le_refl _))
  have hMd18 := (show ∀ x ∈ ([([97#8, 98#8], [3]), ([99#8], [1, 2])] : List Tv), x.2.length ≤ 1000000 by decide)
  clear HS14 hb17
  refine wl_ <| p_ H17 rfl rfl fun a20 H20 => wl_ <| i_ H20 rfl (dd_ext rfl (H20.ev 18 rfl) rfl) fun a21 H21 => wl_ <| i_ H21 rfl (dd_ext rfl (H21.ev 18 rfl) rfl) fun a22 H22 => q_ H22 2 rfl fun a23 H23 => ln_ <| ?_
  clear H17 a17 H20 a20 H21 a21 H22 a22
  have H24 := H23.sel [1, 2, 3, 4, 5] rfl
  refine nx <| sq_ <| rl_ <| wl_ <| i_ H24 rfl (v := .agg (bs (zer 32))) (dd_bldk rfl (ps := []) (pr0) (cs := bs (zer 32)) (by kernel_rfl)) fun a25 H25 => ?_
  clear H23 H24 a23
  refine wl_ <| d_ H25 rfl (R := fun v w9 => ∃ A27 C27, v = .tuple #[.slice A27 0 C27, .int .i64 0] ∧ ((volL ([])).length = 0 ∧ 0 ≤ 3) ∧ (OV W17.heap.size w9 (.slice A27 0 C27) (volL ([]))) ∧ Below W17.heap.size W17 w9) (dc_ Tryd.func12 rfl (args1 (H25.ev 24 rfl)) (dect_any (zer 32) W17 (length_zer 32)) (fun _ w9 ⟨v9, he, ho, hb⟩ => by rw [wk_z1] at he; rw [wk_z2] at ho; obtain ⟨A9, n9, c9, rfl, h1, _⟩ := OV.form2 ho; obtain rfl : n9 = 0 := h1.symm; exact ⟨_, he, A9, c9, rfl, ⟨h1, (by decide)⟩, ho, hb⟩)) ?_
  rintro _ W26 ⟨A27, C27, rfl, hNd27, hov27, hb26⟩ a26 H26
  have HS26 := HSb19.same hb26
  clear H25 a25
  have HBs28 : Below W17.heap.size W17 W26 := HS26.below
  have HR19_0r := fun (W9 : World) (hb9 : Below W26.heap.size W26 W9) => HR19_0 W9 (HBs28.trans (hb9.mono HBs28.size))
  clear HR19_0
  have HR19_0 := HR19_0r
  clear HR19_0r
  have HR19_1r := fun (W9 : World) (hb9 : Below W26.heap.size W26 W9) => HR19_1 W9 (HBs28.trans (hb9.mono HBs28.size))
  clear HR19_1
  have HR19_1 := HR19_1r
  clear HR19_1r
  have HR19_2r := fun (W9 : World) (hb9 : Below W26.heap.size W26 W9) => HR19_2 W9 (HBs28.trans (hb9.mono HBs28.size))
  clear HR19_2
  have HR19_2 := HR19_2r
  clear HR19_2r
  have HR19_3r := fun (W9 : World) (hb9 : Below W26.heap.size W26 W9) => HR19_3 W9 (HBs28.trans (hb9.mono HBs28.size))
  clear HR19_3
  have HR19_3 := HR19_3r
  clear HR19_3r
  have HVd18r := fun (W9 : World) (hb9 : Below W26.heap.size W26 W9) => HVd18 W9 (HBs28.trans (hb9.mono HBs28.size))
  clear HVd18
  have HVd18 := HVd18r
  clear HVd18r
  have HSb28 := St.nil W26 noF
  clear HS26
  have HVd27 := fun (W9 : World) (hb9 : Below W26.heap.size W26 W9) => ((hov27.vols (Nat.le_trans (Nat.le_of_eq hNd27.1) (Nat.le_trans hNd27.2 (by decide)))).below hb9 (Nat.le_refl _))
  have hMd27 := (show ∀ x ∈ ([] : List Tv), x.2.length ≤ 1000000 by decide)
  clear HSb19 hb26
  refine wl_ <| p_ H26 rfl rfl fun a29 H29 => wl_ <| i_ H29 rfl (dd_ext rfl (H29.ev 23 rfl) rfl) fun a30 H30 => wl_ <| i_ H30 rfl (dd_ext rfl (H30.ev 23 rfl) rfl) fun a31 H31 => q_ H31 2 rfl fun a32 H32 => ln_ <| nx <| sq_ <| ?_
  clear H26 a26 H29 a29 H30 a30 H31 a31
  refine wi_ HSb28 [] rfl [] rfl fun HSh33 hx33 => hp_ H32 0 hx33 rfl rfl rfl fun a34 H34 => ht_ H34 1 hx33 rfl rfl (fun _ _ _ => dd_cmp rfl (H34.ev 28 rfl) rfl (eq_t (by decide))) fun a35 H35 => hp_ H35 2 hx33 rfl rfl rfl fun a36 H36 => htg H36 3 hx33 rfl (wg_ H36 rfl rfl rfl rfl) rfl (fun _ _ _ => xA 32 1 0 rfl (H36.ev 2 rfl) rfl) fun a37 H37 => htg H37 4 hx33 rfl (wg_ H37 rfl rfl rfl rfl) rfl (v := .int .u8 2) (fun _ _ HS9 => dd_getR (HR19_3 _ HS9.below) rfl (H37.ev 31 rfl) ((bs_get (length_encT _) 0 (by decide)).trans (by rw [wk_at0]; rfl)) Tryd.underlying5 rfl) fun a38 H38 => htg H38 5 hx33 rfl (wg_ H38 rfl rfl rfl rfl) rfl (fun _ _ _ => dd_cmp rfl (H38.ev 32 rfl) rfl (eq_t (by decide))) fun a39 H39 => hp_ H39 6 hx33 rfl rfl rfl fun a40 H40 => ?_
  clear HSb28 H32 a32 H34 a34 H35 a35 H36 a36 H37 a37 H38 a38
  refine hp_ H40 7 hx33 rfl rfl rfl fun a41 H41 => htg H41 8 hx33 rfl (wg_ H41 rfl rfl rfl rfl) rfl (fun _ _ _ => xA 32 1 1 rfl (H41.ev 2 rfl) rfl) fun a42 H42 => htg H42 9 hx33 rfl (wg_ H42 rfl rfl rfl rfl) rfl (v := .int .u8 97) (fun _ _ HS9 => dd_getR (HR19_3 _ HS9.below) rfl (H42.ev 36 rfl) ((bs_get (length_encT _) 1 (by decide)).trans (by rw [wk_at1]; rfl)) Tryd.underlying5 rfl) fun a43 H43 => htg H43 10 hx33 rfl (wg_ H43 rfl rfl rfl rfl) rfl (fun _ _ _ => dd_cmp rfl (H43.ev 37 rfl) rfl (eq_t (by decide))) fun a44 H44 => hp_ H44 11 hx33 rfl rfl rfl fun a45 H45 => hp_ H45 12 hx33 rfl rfl rfl fun a46 H46 => htg H46 13 hx33 rfl (wg_ H46 rfl rfl rfl rfl) rfl (fun _ _ _ => xA 32 1 5 rfl (H46.ev 2 rfl) rfl) fun a47 H47 => htg H47 14 hx33 rfl (wg_ H47 rfl rfl rfl rfl) rfl (v := .int .u8 1) (fun _ _ HS9 => dd_getR (HR19_3 _ HS9.below) rfl (H47.ev 41 rfl) ((bs_get (length_encT _) 5 (by decide)).trans (by rw [wk_at5]; rfl)) Tryd.underlying5 rfl) fun a48 H48 => ?_
  clear H39 a39 H40 a40 H41 a41 H42 a42 H43 a43 H44 a44 H45 a45 H46 a46
  refine htg H48 15 hx33 rfl (wg_ H48 rfl rfl rfl rfl) rfl (fun _ _ _ => dd_cmp rfl (H48.ev 42 rfl) rfl (eq_t (by decide))) fun a49 H49 => hp_ H49 16 hx33 rfl rfl rfl fun a50 H50 => hp_ H50 17 hx33 rfl rfl rfl fun a51 H51 => htg H51 18 hx33 rfl (wg_ H51 rfl rfl rfl rfl) rfl (fun _ _ _ => xA 32 1 6 rfl (H51.ev 2 rfl) rfl) fun a52 H52 => htg H52 19 hx33 rfl (wg_ H52 rfl rfl rfl rfl) rfl (v := .int .u8 3) (fun _ _ HS9 => dd_getR (HR19_3 _ HS9.below) rfl (H52.ev 46 rfl) ((bs_get (length_encT _) 6 (by decide)).trans (by rw [wk_at6]; rfl)) Tryd.underlying5 rfl) fun a53 H53 => htg H53 20 hx33 rfl (wg_ H53 rfl rfl rfl rfl) rfl (fun _ _ _ => dd_cmp rfl (H53.ev 47 rfl) rfl (eq_t (by decide))) fun a54 H54 => hp_ H54 21 hx33 rfl rfl rfl fun a55 H55 => hp_ H55 22 hx33 rfl rfl rfl fun a56 H56 => ?_
  clear H47 a47 H48 a48 H49 a49 H50 a50 H51 a51 H52 a52 H53 a53 H54 a54
  refine htg H56 23 hx33 rfl (wg_ H56 rfl rfl rfl rfl) rfl (fun _ _ _ => xA 32 1 10 rfl (H56.ev 2 rfl) rfl) fun a57 H57 => htg H57 24 hx33 rfl (wg_ H57 rfl rfl rfl rfl) rfl (v := .int .u8 99) (fun _ _ HS9 => dd_getR (HR19_3 _ HS9.below) rfl (H57.ev 51 rfl) ((bs_get (length_encT _) 10 (by decide)).trans (by rw [wk_at10]; rfl)) Tryd.underlying5 rfl) fun a58 H58 => htg H58 25 hx33 rfl (wg_ H58 rfl rfl rfl rfl) rfl (fun _ _ _ => dd_cmp rfl (H58.ev 52 rfl) rfl (eq_t (by decide))) fun a59 H59 => hp_ H59 26 hx33 rfl rfl rfl fun a60 H60 => hp_ H60 27 hx33 rfl rfl rfl fun a61 H61 => htg H61 28 hx33 rfl (wg_ H61 rfl rfl rfl rfl) rfl (fun _ _ _ => dd_mv rfl (H61.ev 5 rfl)) fun a62 H62 => htg H62 29 hx33 rfl (wg_ H62 rfl rfl rfl rfl) rfl (fun _ _ _ => dd_cmp rfl (H62.ev 56 rfl) rfl (eq_t (by decide))) fun a63 H63 => hp_ H63 30 hx33 rfl rfl rfl fun a64 H64 => ?_
  clear H55 a55 H56 a56 H57 a57 H58 a58 H59 a59 H60 a60 H61 a61 H62 a62
  refine hp_ H64 31 hx33 rfl rfl rfl fun a65 H65 => htg H65 32 hx33 rfl (wg_ H65 rfl rfl rfl rfl) rfl (fun _ _ _ => dd_mv rfl (H65.ev 4 rfl)) fun a66 H66 => htg H66 33 hx33 rfl (wg_ H66 rfl rfl rfl rfl) rfl (fun _ _ _ => dd_mv rfl (H66.ev 1 rfl)) fun a67 H67 => h1_ 34 rfl <| cg H67 (wg_ H67 rfl rfl rfl rfl) rfl HSh33 (v := .bool true) (dc_ Tryd.func16 rfl (args2 (H67.ev 60 rfl) (H67.ev 61 rfl)) (keepvols_any (volL ([([97#8, 98#8], [3]), ([99#8], [1, 2])])) (volL ([([97#8, 98#8], [3]), ([99#8], [1, 2])])) _ _ _ _ _ _ W26.drew (HVd18 _ HSh33.below) (vols_row (l := volL [([97#8, 98#8], [3]), ([99#8], [1, 2])]) (HR19_2 _ HSh33.below) (Nat.le_refl _) (by decide) (get_consP (volAt_of (p := [97#8, 98#8]) (L := [3]) (ints_rowI (HR19_0 _ HSh33.below) (by decide) (by decide)) (by decide)) (get_consP (volAt_of (p := [99#8]) (L := [1, 2]) (ints_rowI (HR19_1 _ HSh33.below) (by decide) (by decide)) (by decide)) (get_nilP)))) (Nat.le_trans hNd18.2 (by decide)) (by decide) (vols_lenB (hMd18))) (fun _ w9 h9 => ⟨_, h9.1, by rw [decide_eq_true rfl], h9.2⟩)) fun W68 HS68 a68 H68 => sx_ (sxi HS68 [] rfl) fun hx69 => hp_ H68 35 hx69 rfl rfl rfl fun a70 H70 => hp_ H70 36 hx69 rfl rfl rfl fun a71 H71 => htg H71 37 hx69 rfl (wg_ H71 rfl rfl rfl rfl) rfl (fun _ _ _ => dd_mv rfl (H71.ev 7 rfl)) fun a72 H72 => ?_
  clear H63 a63 H64 a64 H65 a65 H66 a66 H67 a67 HSh33 hx33 H68 a68 H70 a70
  refine htg H72 38 hx69 rfl (wg_ H72 rfl rfl rfl rfl) rfl (fun _ _ _ => dd_cmp rfl (H72.ev 65 rfl) rfl (eq_t (by decide))) fun a73 H73 => hp_ H73 39 hx69 rfl rfl rfl fun a74 H74 => hp_ H74 40 hx69 rfl rfl rfl fun a75 H75 => htg H75 41 hx69 rfl (wg_ H75 rfl rfl rfl rfl) rfl (fun _ _ _ => dd_mv rfl (H75.ev 6 rfl)) fun a76 H76 => htg H76 42 hx69 rfl (wg_ H76 rfl rfl rfl rfl) rfl (v := .int .i64 0) (fun _ _ _ => dd_len rfl (H76.ev 69 rfl) Tryd.underlying22) fun a77 H77 => htg H77 43 hx69 rfl (wg_ H77 rfl rfl rfl rfl) rfl (fun _ _ _ => dd_cmp rfl (H77.ev 70 rfl) rfl (eq_t (by decide))) fun a78 H78 => hp_ H78 44 hx69 rfl rfl rfl fun a79 H79 => hp_ H79 45 hx69 rfl rfl rfl fun a80 H80 => ?_
  clear H71 a71 H72 a72 H73 a73 H74 a74 H75 a75 H76 a76 H77 a77 H78 a78
  refine htg H80 46 hx69 rfl (wg_ H80 rfl rfl rfl rfl) rfl (fun _ _ _ => dd_mv rfl (H80.ev 1 rfl)) fun a81 H81 => h1_ 47 rfl <| cg H81 (wg_ H81 rfl rfl rfl rfl) rfl HS68 (v := .int .i64 1) (dc_ Tryd.func17 rfl (args2 rfl (H81.ev 74 rfl)) (find_any _ _ _ ([99#8]) ([([97#8, 98#8], [3]), ([99#8], [1, 2])]) W68 (vols_row (l := volL [([97#8, 98#8], [3]), ([99#8], [1, 2])]) (HR19_2 _ HS68.below) (Nat.le_refl _) (by decide) (get_consP (volAt_of (p := [97#8, 98#8]) (L := [3]) (ints_rowI (HR19_0 _ HS68.below) (by decide) (by decide)) (by decide)) (get_consP (volAt_of (p := [99#8]) (L := [1, 2]) (ints_rowI (HR19_1 _ HS68.below) (by decide) (by decide)) (by decide)) (get_nilP)))) (by decide)) (fun _ w9 h9 => ⟨_, h9.1, by rw [wk_f1], h9.2⟩)) fun W82 HS82 a82 H82 => sx_ (sxi HS82 [] rfl) fun hx83 => htg H82 48 hx83 rfl (wg_ H82 rfl rfl rfl rfl) rfl (fun _ _ _ => dd_cmp rfl (H82.ev 75 rfl) rfl (eq_t (by decide))) fun a84 H84 => hp_ H84 49 hx83 rfl rfl rfl fun a85 H85 => hp_ H85 50 hx83 rfl rfl rfl fun a86 H86 => htg H86 51 hx83 rfl (wg_ H86 rfl rfl rfl rfl) rfl (fun _ _ _ => dd_mv rfl (H86.ev 1 rfl)) fun a87 H87 => h1_ 52 rfl <| cg H87 (wg_ H87 rfl rfl rfl rfl) rfl HS82 (v := .int .i64 (-1)) (dc_ Tryd.func17 rfl (args2 rfl (H87.ev 79 rfl)) (find_any _ _ _ ([120#8]) ([([97#8, 98#8], [3]), ([99#8], [1, 2])]) W82 (vols_row (l := volL [([97#8, 98#8], [3]), ([99#8], [1, 2])]) (HR19_2 _ HS82.below) (Nat.le_refl _) (by decide) (get_consP (volAt_of (p := [97#8, 98#8]) (L := [3]) (ints_rowI (HR19_0 _ HS82.below) (by decide) (by decide)) (by decide)) (get_consP (volAt_of (p := [99#8]) (L := [1, 2]) (ints_rowI (HR19_1 _ HS82.below) (by decide) (by decide)) (by decide)) (get_nilP)))) (by decide)) (fun _ w9 h9 => ⟨_, h9.1, by rw [wk_f2], h9.2⟩)) fun W88 HS88 a88 H88 => ?_
  clear H79 a79 H80 a80 H81 a81 HS68 hx69 H82 a82 H84 a84 H85 a85 H86 a86
  refine sx_ (sxi HS88 [] rfl) fun hx89 => htg H88 53 hx89 rfl (wg_ H88 rfl rfl rfl rfl) rfl (fun _ _ _ => dd_cmp rfl (H88.ev 80 rfl) rfl (eq_t (by decide))) fun a90 H90 => hp_ H90 54 hx89 rfl rfl rfl fun a91 H91 => hp_ H91 55 hx89 rfl rfl rfl fun a92 H92 => htg H92 56 hx89 rfl (wg_ H92 rfl rfl rfl rfl) rfl (fun _ _ _ => dd_mv rfl (H92.ev 1 rfl)) fun a93 H93 => h1_ 57 rfl <| cg H93 (wg_ H93 rfl rfl rfl rfl) rfl HS88 (v := .bool true) (dc_ Tryd.func14 rfl (args1 (H93.ev 84 rfl)) (goodt_any _ _ _ ([([97#8, 98#8], [3]), ([99#8], [1, 2])]) W88 (vols_row (l := volL [([97#8, 98#8], [3]), ([99#8], [1, 2])]) (HR19_2 _ HS88.below) (Nat.le_refl _) (by decide) (get_consP (volAt_of (p := [97#8, 98#8]) (L := [3]) (ints_rowI (HR19_0 _ HS88.below) (by decide) (by decide)) (by decide)) (get_consP (volAt_of (p := [99#8]) (L := [1, 2]) (ints_rowI (HR19_1 _ HS88.below) (by decide) (by decide)) (by decide)) (get_nilP)))) (by decide) (by decide)) (fun _ w9 h9 => ⟨_, h9.1, by rw [wk_good], h9.2⟩)) fun W94 HS94 a94 H94 => sx_ (sxi HS94 [] rfl) fun hx95 => hp_ H94 58 hx95 rfl rfl rfl fun a96 H96 => ?_
  clear H87 a87 HS82 hx83 H88 a88 H90 a90 H91 a91 H92 a92 H93 a93 HS88 hx89
  refine hp_ H96 59 hx95 rfl rfl rfl fun a97 H97 => htg H97 60 hx95 rfl (wg_ H97 rfl rfl rfl rfl) rfl (fun _ _ _ => dd_mv rfl (H97.ev 1 rfl)) fun a98 H98 => htg H98 61 hx95 rfl (wg_ H98 rfl rfl rfl rfl) rfl (fun _ _ _ => xS 2 0 rfl (H98.ev 88 rfl) rfl) fun a99 H99 => htg H99 62 hx95 rfl (wg_ H99 rfl rfl rfl rfl) rfl (v := .agg #[.string (⟨#[97, 98]⟩), .slice (some ⟨g8, 0, none⟩) 1 1]) (fun _ _ HS9 => dd_loadR (HR19_2 _ HS9.below) rfl (H99.ev 89 rfl) rfl Tryd.underlying45 rfl (by kernel_rfl)) fun a100 H100 => htg H100 63 hx95 rfl (wg_ H100 rfl rfl rfl rfl) rfl (fun _ _ _ => dd_mv rfl (H100.ev 1 rfl)) fun a101 H101 => htg H101 64 hx95 rfl (wg_ H101 rfl rfl rfl rfl) rfl (fun _ _ _ => xS 2 0 rfl (H101.ev 91 rfl) rfl) fun a102 H102 => htg H102 65 hx95 rfl (wg_ H102 rfl rfl rfl rfl) rfl (v := .agg #[.string (⟨#[97, 98]⟩), .slice (some ⟨g8, 0, none⟩) 1 1]) (fun _ _ HS9 => dd_loadR (HR19_2 _ HS9.below) rfl (H102.ev 92 rfl) rfl Tryd.underlying45 rfl (by kernel_rfl)) fun a103 H103 => h1_ 66 rfl <| ng H103 (wg_ H103 rfl rfl rfl rfl) rfl (fun _ h => dd_lits HS94 #[.string (⟨#[97, 98]⟩), .slice (some ⟨g8, 0, none⟩) 1 1, .string (⟨#[97, 98]⟩), .slice (some ⟨g8, 0, none⟩) 1 1] rfl (ps := [(0, .agg #[.string (⟨#[97, 98]⟩), .slice (some ⟨g8, 0, none⟩) 1 1]), (1, .agg #[.string (⟨#[97, 98]⟩), .slice (some ⟨g8, 0, none⟩) 1 1])]) (pr1 (H103.ev 90 rfl) (pr1 (H103.ev 93 rfl) (pr0))) (z := .agg #[.string (⟨#[]⟩), .slice none 0 0]) (sz := 2) Tryd.underlying22 (by kernel_rfl) rfl rfl (by kernel_rfl) h) fun g94 W104 HS104 a104 H104 => ?_
  clear H94 a94 H96 a96 H97 a97 H98 a98 H99 a99 H100 a100 H101 a101 H102 a102
  refine sx_ (sxi HS104 [0] rfl) fun hx105 => h1_ 67 rfl <| cg H104 (wg_ H104 rfl rfl rfl rfl) rfl HS104 (v := .bool false) (dc_ Tryd.func14 rfl (args1 (H104.ev 94 rfl)) (goodt_any _ _ _ ([([97#8, 98#8], [3]), ([97#8, 98#8], [3])]) W104 (vols_row (l := volL [([97#8, 98#8], [3]), ([97#8, 98#8], [3])]) (HS104.row 0 rfl) (Nat.le_refl _) (by decide) (get_consP (volAt_of (p := [97#8, 98#8]) (L := [3]) (ints_rowI (HR19_0 _ HS104.below) (by decide) (by decide)) (by decide)) (get_consP (volAt_of (p := [97#8, 98#8]) (L := [3]) (ints_rowI (HR19_0 _ HS104.below) (by decide) (by decide)) (by decide)) (get_nilP)))) (by decide) (by decide)) (fun _ w9 h9 => ⟨_, h9.1, by rw [wk_bad], h9.2⟩)) fun W106 HS106 a106 H106 => sx_ (sxi HS106 [0] rfl) fun hx107 => htg H106 68 hx107 rfl (wg_ H106 rfl rfl rfl rfl) rfl (v := .bool true) (fun _ _ _ => dd_nt rfl (H106.ev 95 rfl) rfl) fun a108 H108 => hp_ H108 69 hx107 rfl rfl rfl fun a109 H109 => hp_ H109 70 hx107 rfl rfl rfl fun a110 H110 => ?_
  clear HS94 H103 a103 hx95 H104 a104 HS104 hx105 H106 a106 H108 a108 H109 a109
  refine wpAnyH_done (by kernel_rfl) ?_ _
  clear hx107
  refine nx <| wp_ret <| ret_run H110.env0 (res_t Tryd.results8 (H110.get 0 rfl)) <| ?_
  exact ⟨rfl, (HBs19.trans ((HBs28.trans (HS106.below.mono HBs28.size)).mono HBs19.size))⟩
end Go.Proofs.YtpmedgibnnonkaaDoor

/- append onto an empty slice of ints of no room of the call's own: nothing that stood is changed. -/
set_option maxRecDepth 4000
namespace Go.Proofs.YtpmedgibnnonkaaDoor
open Go Go.RowKit
theorem wp_append_emptyI {w : World} {o : Oper} {a : Act} {K : Act → World → Prop} {Q : Exit → Act → World → Prop} (s x : Operand)
    (ho : o.op = .call { callee := .builtin .append, args := #[s, x], argTypes := #[43, 43] }) (base g : Nat)
    (hs : a.eval s = .slice (some ⟨g, 0, none⟩) 0 0) (hown : w.ownsRow base 3 1 (.slice (some ⟨g, 0, none⟩) 0 0) 0 [])
    (A : Option Addr) (m c : Nat) (q : List Int) (hx : a.eval x = .slice A m c) (hq : IntsAt w (.slice A m c) q) (hm : m ≤ 1000000) (hbase : base ≤ w.heap.size)
    (h : ∀ v' w', w'.ownsRow base 3 1 v' m (intsV q) → Below w.heap.size w w' → K (a.put o.dst v') w') : o.wp Tryd.prog a w K Q := by
  obtain ⟨i0, hi, hz0, hz1, hz2⟩ := info_parts info_int
  have hln := ints_len hq
  cases A with
  | none =>
    obtain rfl : q = [] := by
      apply Decidable.byContradiction
      intro hne
      obtain ⟨b, o, x, _, e, _⟩ := ints_get hq (k := 0) (List.length_pos_iff.2 hne)
      cases e
    obtain rfl : m = 0 := hln.symm
    obtain rfl : c = 0 := ints_nil hq rfl
    have hrun : (Builtin.append_ #[43, 43] o.type #[.slice (some ⟨g, 0, none⟩) 0 0, .slice none 0 0]).run Tryd.prog w = .ok (.slice (some ⟨g, 0, none⟩) 0 0) w := by
      simp [Builtin.append_, run_underlying Tryd.underlying43, sizeOf, typeInfo, hi, Builtin.lenOf, Builtin.firstCells, storeCells]
    unfold Oper.wp execOp
    simp only [ho, resolve, invoke, builtin, Sem.run_bind, Sem.run_pure, Result.andThen_ok, List.map_toArray, List.map_cons, List.map_nil, hs, hx, hrun]
    exact h _ _ hown (Below.refl _ _)
  | some ad =>
    have hnews : ∀ j u, (intsV q)[j]? = some u → w.cell? (ad.add j) = some u := fun j u hj => by
      unfold intsV at hj
      rw [List.getElem?_map] at hj
      cases hx2 : q[j]? with
      | none => rw [hx2] at hj; cases hj
      | some y =>
        rw [hx2] at hj
        cases hj
        obtain ⟨b, o', x', hxx, e, _, hc, _⟩ := ints_get hq (List.getElem?_eq_some_iff.1 hx2).1
        rw [hx2] at hxx
        cases hxx
        injection e with e
        subst e
        rw [Addr.add_mid]
        exact hc
    subst hln
    by_cases h0 : q = []
    · subst h0
      have hrun := run_append_room_cells (P := Tryd.prog) w 43 o.type 3 i0 Tryd.underlying43 hi g 0 0 0 ad 0 c [] (by simp) (fun j u hu => by simp at hu) (fun u hu => by simp at hu) (Nat.le_refl _) (fun j hj => by simp at hj) (fun j hj => by simp at hj)
      unfold Oper.wp
      simp only [List.length_nil] at hx
      simp [execOp, ho, resolve, invoke, builtin, hs, hx, hrun, Result.andThen]
      exact h _ w hown (Below.refl _ _)
    · have hl : 0 < q.length := List.length_pos_iff.2 h0
      obtain ⟨v', w', hrun, r1, r2⟩ := run_append_arg_grows (P := Tryd.prog) w 43 o.type 3 i0 (.int .i64 0) 1 8 Tryd.underlying43 hi hz0 hz1 hz2 rfl (by omega) ⟨g, 0, none⟩ 0 0 [] rfl (fun j u hu => by simp at hu) ad q.length c (intsV q) (by simp [intsV]) hnews (by omega) (by unfold maxLen; omega) (by omega)
      unfold Oper.wp
      simp [execOp, ho, resolve, invoke, builtin, hs, hx, hrun, Result.andThen]
      refine h v' w' (own_base (by simpa using r1) hbase) (below_of_grown r2 (fun g hg => by cases hg) (Nat.le_refl _))
end Go.Proofs.YtpmedgibnnonkaaDoor

/- The law's own volumes: copies. -/
set_option maxRecDepth 4000
namespace Go.Proofs.YtpmedgibnnonkaaDoor
open Go Go.RowKit
theorem own_emptyI (w : World) : (w.alloc (.cells #[] 3)).ownsRow w.heap.size 3 1 (.slice (some ⟨w.heap.size, 0, none⟩) 0 0) 0 [] := ⟨rfl, .inr ⟨w.heap.size, 0, #[], rfl, Nat.le_refl _, heap_alloc_new w _, Nat.le_refl _, by decide, rfl, rfl⟩⟩
theorem ints_bdV {w : World} {A : Option Addr} {n c : Nat} {l : List Int} (h : IntsAt w (.slice A n c) l) : ∀ x ∈ l, -9223372036854775808 ≤ x ∧ x < 9223372036854775808 := fun x hx => by
  obtain ⟨j, hj, e⟩ := List.getElem_of_mem hx
  obtain ⟨_, _, y, h1, _, _, _, h2⟩ := ints_get h hj
  rw [List.getElem?_eq_getElem hj, e] at h1
  cases h1
  exact h2
set_option maxRecDepth 20000 in
set_option maxHeartbeats 1600000 in
theorem ownvols_any (A : Option Addr) (n c : Nat) (l : List Vl) (w : World) (h : VolsAt w (.slice A n c) l) (hn : n ≤ 900000) (hm : ∀ x ∈ l, x.2.length ≤ 1000000) :
    Calls Tryd.prog 9 #[.slice A n c] w fun e w' => ∃ v, e = .returned v ∧ OV w.heap.size w' v l ∧ Below w.heap.size w w' := by
  have hln := vols_len h
  have HF := Lib.hid (fun k (hk : k < l.length) => vols_get h hk)
  have HL := Lib.hid hln
  have HM := Lib.hid hm
  have HN9 := Lib.hid hn
  clear h hln hm
  go_enter Tryd.func9, Tryd.ntmps9
  go_wp2_with fail
  go_loopw [3, 4] (fun v i wr => ∃ k : Nat, k ≤ n ∧ i = .int .i64 k ∧ Below w.heap.size w wr ∧ OV w.heap.size wr v (l.take k)) (fun _ i _ => n - (intOf i).toNat)
  case atStart => exact ⟨0, by omega, rfl, Below.refl _ _, OV.nil _ _⟩
  case round =>
    obtain ⟨k, hk, rfl, hb, hO⟩ := hrel
    obtain ⟨A3, N3, c3, rfl, hN3, _⟩ := OV.form2 hO
    by_cases hlt : k < n
    · obtain ⟨b, o, s0, L, B, m, c1, hx, rfl, hbw, hr, hi, hlm, hs0⟩ := HF.out k (by rw [HL.out]; exact hlt)
      obtain ⟨O, hO'⟩ : ∃ O, o + k * 2 = O := ⟨_, rfl⟩
      rw [hO'] at hr
      have HC0 : Hid (w.cell? ⟨b, O, none⟩ = some (.string s0)) := Lib.hid (hr 0 _ rfl)
      have HC1 : Hid (w.cell? ⟨b, O + 1, none⟩ = some (.slice B m c1)) := Lib.hid (hr 1 _ rfl)
      have HBW := Lib.hid hbw
      have HO := Lib.hid hO'
      have HI := Lib.hid hi
      have HBD := Lib.hid (ints_bdV hi)
      have HLM := Lib.hid hlm
      have HM6 : Hid (m ≤ 1000000) := Lib.hid (by rw [← hlm]; exact HM.out _ (List.mem_of_getElem? hx))
      have HS0 := Lib.hid hs0
      have HTK : Hid (l.take k ++ [(s0, L)] = l.take (k + 1)) := Lib.hid (by rw [List.take_add_one, hx]; rfl)
      have HLK : Hid ((l.take k).length + [(s0, L)].length ≤ 1000000) := Lib.hid (by rw [List.length_take]; show min k l.length + 1 ≤ 1000000; have := HN9.out; omega)
      have hk0 : (0 : Int) ≤ (k : Int) := by omega
      have hk1 : (k : Int) < (n : Int) := by omega
      have HK0 := Lib.hid hk0
      have HK1 := Lib.hid hk1
      clear hx hr hbw hO' hi hlm hs0 hN3
      go_upto_region 5 with fail
      have hF0 : Wl [(fun W => Below w.heap.size w W ∧ OV w.heap.size W (.slice A3 N3 c3) (l.take k)), (fun W => Below w.heap.size w W)] 0 (World.drew _) := ⟨hb.drew, hO.call (Below.refl _ _).drew hb.size⟩
      clear hb hO hk0 hk1
      refine wp_region_phs [is (.slice A3 N3 c3), is (.slice (some ⟨b, o, none⟩) n c), is (.int .i64 (k : Int)), is (.pointer (some ⟨b, O, none⟩)), is (.pointer (some ⟨b, O, none⟩)), is (.string s0), (fun v W => ∃ g, v = Value.slice (some ⟨g, 0, none⟩) 0 0 ∧ W.ownsRow w.heap.size 3 1 v 0 []), is (.slice (some ⟨b, o, none⟩) n c), is (.int .i64 (k : Int)), is (.pointer (some ⟨b, O, none⟩)), is (.pointer (some ⟨b, O + 1, none⟩)), is (.slice B m c1), (fun v W => ∃ A9 c9, v = Value.slice A9 m c9 ∧ W.ownsRow w.heap.size 3 1 (.slice A9 m c9) m (intsV L)), (fun v W => ∃ A9 c9, v = Value.agg #[.string s0, .slice A9 m c9] ∧ W.ownsRow w.heap.size 3 1 (.slice A9 m c9) m (intsV L)), (fun v W => ∃ A9 c9 g, v = Value.slice (some ⟨g, 0, none⟩) 1 1 ∧ Row W g 45 #[.string s0, .slice A9 m c9] ∧ W.ownsRow w.heap.size 3 1 (.slice A9 m c9) m (intsV L)), (fun v W => OV w.heap.size W v (l.take (k + 1)) ∧ w.heap.size ≤ W.heap.size), (fun v W => OV w.heap.size W v (l.take (k + 1)) ∧ w.heap.size ≤ W.heap.size)] [true, true, true, true, true, true, false, true, true, true, true, true, false, false, false, false, false] [(fun W => Below w.heap.size w W ∧ OV w.heap.size W (.slice A3 N3 c3) (l.take k)), (fun W => Below w.heap.size w W)] [false, false, false, false, false, false, false, false, false, false, false, false, false, false, false, true, false] [some 0, some 0, some 0, some 0, some 0, some 0, some 0, some 0, some 0, some 0, some 0, some 0, some 0, some 0, some 0, some 0, some 1] [some 11, some 12, some 13, some 14, some 15, some 16, some 17, some 18, some 19, some 20, some 21, some 22, some 23, some 24, some 25, some 26, some 3] 17 1 (fun _ => true) rfl rfl (by kernel_rfl) (by kernel_rfl) (by kernel_rfl) (by kernel_rfl) ?_ ?_ ?_ ?_ ?_ ?_
      · repeat first | exact wok_nil | refine wok_cons (by first | exact fun _ _ h k => ⟨h.1.trans (k.mono h.1.size), h.2.call k h.1.size⟩ | exact fun _ _ h k => h.trans (k.mono h.size)) ?_
      · repeat first | exact vok_nil | refine vok_rig (by first | exact fun _ _ _ h => h) ?_ | refine vok_soft (by first | exact fun _ _ _ h _ => h | exact fun _ _ _ h k => ⟨h.1.call k h.2, Nat.le_trans h.2 k.size⟩ | exact fun _ _ _ h k => ⟨h.choose, h.choose_spec.1, owns_call h.choose_spec.2 k⟩ | exact fun _ _ _ h k => ⟨h.choose, h.choose_spec.choose, h.choose_spec.choose_spec.1, owns_call h.choose_spec.choose_spec.2 k⟩ | exact fun _ _ _ h k => ⟨h.choose, h.choose_spec.choose, h.choose_spec.choose_spec.choose, h.choose_spec.choose_spec.choose_spec.1, h.choose_spec.choose_spec.choose_spec.2.1.call k, owns_call h.choose_spec.choose_spec.choose_spec.2.2 k⟩) ?_
      · exact hF0
      · repeat first | exact all_end (by decide) | refine all_cons (by first | exact rfl | exact ⟨rfl, fun _ _ h => Or.inl h⟩ | exact ⟨rfl, fun _ _ h => Or.inr ⟨h, rfl⟩⟩) ?_
      · refine allp_mild 0 rfl rfl rfl (fun a x_ W hout hin hP => ?_) ?_
        · have e3 : a.tmps[3]? = some (.slice A3 N3 c3) := (hout 3 (by kernel_rfl)).trans rfl
          exact does_move rfl e3 ⟨Same.refl _, rfl⟩
        refine allp_mild 0 rfl rfl rfl (fun a x_ W hout hin hP => ?_) ?_
        · have e0 : a.tmps[0]? = some (.slice (some ⟨b, o, none⟩) n c) := (hout 0 (by kernel_rfl)).trans rfl
          exact does_move rfl e0 ⟨Same.refl _, rfl⟩
        refine allp_mild 0 rfl rfl rfl (fun a x_ W hout hin hP => ?_) ?_
        · have e4 : a.tmps[4]? = some (.int .i64 (k : Int)) := (hout 4 (by kernel_rfl)).trans rfl
          exact does_move rfl e4 ⟨Same.refl _, rfl⟩
        refine allp_mild 0 rfl rfl rfl (fun a x_ W hout hin hP => ?_) ?_
        · have e12 := hin.is 1 12 (by kernel_rfl) (by decide) (by kernel_rfl) (by kernel_rfl) _ rfl
          have e13 := hin.is 2 13 (by kernel_rfl) (by decide) (by kernel_rfl) (by kernel_rfl) _ rfl
          have hO := HO.out
          have k0 := HK0.out
          have k1 := HK1.out
          clear hP
          clear hin hout
          intro K Q hK
          go_simp
          exact hK _ _ ⟨Same.refl _, rfl⟩
        refine allp_mild 0 rfl rfl rfl (fun a x_ W hout hin hP => ?_) ?_
        · have e14 := hin.is 3 14 (by kernel_rfl) (by decide) (by kernel_rfl) (by kernel_rfl) _ rfl
          clear hP
          clear hin hout
          intro K Q hK
          go_simp
          exact hK _ _ ⟨Same.refl _, rfl⟩
        refine allp_mild 0 rfl rfl rfl (fun a x_ W hout hin hP => ?_) ?_
        · have e15 := hin.is 4 15 (by kernel_rfl) (by decide) (by kernel_rfl) (by kernel_rfl) _ rfl
          have hc : W.cell? ⟨b, O, none⟩ = some (.string s0) := (hP.1.cell (p := ⟨b, O, none⟩) HBW.out).trans HC0.out
          clear hP
          clear hin hout
          intro K Q hK
          go_simp
          exact hK _ _ ⟨Same.refl _, rfl⟩
        refine allp_mild 0 rfl rfl rfl (fun a x_ W hout hin hP => ?_) ?_
        · have hbse := hP.1.size
          clear hP
          clear hin hout
          intro K Q hK
          go_simp
          exact hK _ _ ⟨Same.alloc _ _, _, rfl, own_base (own_emptyI W) hbse⟩
        refine allp_mild 0 rfl rfl rfl (fun a x_ W hout hin hP => ?_) ?_
        · have e0 : a.tmps[0]? = some (.slice (some ⟨b, o, none⟩) n c) := (hout 0 (by kernel_rfl)).trans rfl
          exact does_move rfl e0 ⟨Same.refl _, rfl⟩
        refine allp_mild 0 rfl rfl rfl (fun a x_ W hout hin hP => ?_) ?_
        · have e4 : a.tmps[4]? = some (.int .i64 (k : Int)) := (hout 4 (by kernel_rfl)).trans rfl
          exact does_move rfl e4 ⟨Same.refl _, rfl⟩
        refine allp_mild 0 rfl rfl rfl (fun a x_ W hout hin hP => ?_) ?_
        · have e18 := hin.is 7 18 (by kernel_rfl) (by decide) (by kernel_rfl) (by kernel_rfl) _ rfl
          have e19 := hin.is 8 19 (by kernel_rfl) (by decide) (by kernel_rfl) (by kernel_rfl) _ rfl
          have hO := HO.out
          have k0 := HK0.out
          have k1 := HK1.out
          clear hP
          clear hin hout
          intro K Q hK
          go_simp
          exact hK _ _ ⟨Same.refl _, rfl⟩
        refine allp_mild 0 rfl rfl rfl (fun a x_ W hout hin hP => ?_) ?_
        · have e20 := hin.is 9 20 (by kernel_rfl) (by decide) (by kernel_rfl) (by kernel_rfl) _ rfl
          clear hP
          clear hin hout
          intro K Q hK
          go_simp
          exact hK _ _ ⟨Same.refl _, rfl⟩
        refine allp_mild 0 rfl rfl rfl (fun a x_ W hout hin hP => ?_) ?_
        · have e21 := hin.is 10 21 (by kernel_rfl) (by decide) (by kernel_rfl) (by kernel_rfl) _ rfl
          have hc : W.cell? ⟨b, O + 1, none⟩ = some (.slice B m c1) := (hP.1.cell (p := ⟨b, O + 1, none⟩) HBW.out).trans HC1.out
          clear hP
          clear hin hout
          intro K Q hK
          go_simp
          exact hK _ _ ⟨Same.refl _, rfl⟩
        refine allp_mild 0 rfl rfl rfl (fun a x_ W hout hin hP => ?_) ?_
        · obtain ⟨v17, e17, hv17⟩ := hin.get 6 17 (by kernel_rfl) (by decide) (by kernel_rfl) (.inr ⟨rfl, by kernel_rfl⟩)
          have e22 := hin.is 11 22 (by kernel_rfl) (by decide) (by kernel_rfl) (by kernel_rfl) _ rfl
          have hbse := hP.1.size
          have hI := HI.out.below hP.1 (Nat.le_refl _)
          obtain ⟨ge, rfl, hoe⟩ := hv17
          clear hin hout hP
          intro K Q hK
          refine wp_append_emptyI (.tmp 17) (.tmp 22) rfl w.heap.size ge (eval_of_get e17) hoe B m c1 L (eval_of_get e22) hI HM6.out hbse (fun v9 w9 own9 hb9 => ?_)
          obtain ⟨A9, c9, rfl, _⟩ := own_slice_form own9
          exact hK _ _ ⟨hb9, A9, c9, rfl, own9⟩
        refine allp_mild 0 rfl rfl rfl (fun a x_ W hout hin hP => ?_) ?_
        · have e16 := hin.is 5 16 (by kernel_rfl) (by decide) (by kernel_rfl) (by kernel_rfl) _ rfl
          obtain ⟨v23, e23, hv23⟩ := hin.get 12 23 (by kernel_rfl) (by decide) (by kernel_rfl) (.inr ⟨rfl, by kernel_rfl⟩)
          obtain ⟨A9, c9, rfl, ho⟩ := hv23
          clear hP
          clear hin hout
          intro K Q hK
          go_simp
          exact hK _ _ ⟨Same.refl _, A9, c9, rfl, ho⟩
        refine allp_mild 0 rfl rfl rfl (fun a x_ W hout hin hP => ?_) ?_
        · obtain ⟨v24, e24, hv24⟩ := hin.get 13 24 (by kernel_rfl) (by decide) (by kernel_rfl) (.inr ⟨rfl, by kernel_rfl⟩)
          obtain ⟨A9, c9, rfl, ho⟩ := hv24
          clear hP
          clear hin hout
          intro K Q hK
          go_simp
          exact hK _ _ ⟨Same.alloc _ _, A9, c9, _, rfl, Row.fresh _ _ _, owns_call ho ((Below.refl _ _).alloc (Nat.le_refl _) _)⟩
        refine allp_wild 0 rfl rfl rfl (fun a x_ W hout hin hP => ?_) ?_
        · have e11 := hin.is 0 11 (by kernel_rfl) (by decide) (by kernel_rfl) (by kernel_rfl) _ rfl
          obtain ⟨v25, e25, hv25⟩ := hin.get 14 25 (by kernel_rfl) (by decide) (by kernel_rfl) (.inr ⟨rfl, by kernel_rfl⟩)
          obtain ⟨A9, c9, g, rfl, hrow, ho⟩ := hv25
          clear hin hout
          intro K Q hK
          have hvi : VolsIn w.heap.size W (some ⟨g, 0, none⟩) 1 1 [(s0, L)] := vol_lit (A := A9) (c := c9) (by rw [HLM.out]; exact hrow) (.inr ⟨by rw [HLM.out]; exact ho, HBD.out⟩) HS0.out
          refine wp_append_vols (.tmp 11) (.tmp 25) rfl w.heap.size _ (l.take k) (eval_of_get e11) hP.2 _ 1 1 [(s0, L)] (eval_of_get e25) hvi HLK.out hP.1.size (fun v9 w9 ov9 hb9 => ?_)
          have e9 : l.take k ++ [(s0, L)] = l.take (k + 1) := HTK.out
          rw [e9] at ov9
          exact hK _ _ ⟨hP.1.trans hb9, ov9, (hP.1.trans hb9).size⟩
        refine allp_mild 1 rfl rfl rfl (fun a x_ W hout hin hP => ?_) ?_
        · obtain ⟨v26, e26, hv26⟩ := hin.get 15 26 (by kernel_rfl) (by decide) (by kernel_rfl) (.inr ⟨rfl, by kernel_rfl⟩)
          exact does_assign rfl e26 ⟨Same.refl _, hv26⟩
        exact all_end (by decide)
      · intro x_ W hP hV
        obtain ⟨h0, hs0⟩ := hV 16 (by decide) (.inr (by kernel_rfl))
        have HB9 := Lib.hid hP
        have HO9 := Lib.hid h0
        clear hP hV h0 hs0
        simp only [putL, Act.put, List.setIfInBounds_toArray, List.set_cons_succ, List.set_cons_zero]
        simp only [Nat.zero_add, Nat.reduceAdd]
        refine wpAnyH_done (by kernel_rfl) ?_ _
        go_wp2_with fail
        exact ⟨⟨k + 1, by omega, by go_num, HB9.out, HO9.out⟩, by simp [intOf]; omega⟩
    · obtain rfl : k = n := by omega
      have hT : l.take k = l := List.take_of_length_le (by rw [HL.out]; exact Nat.le_refl _)
      rw [hT] at hO
      have HO := Lib.hid hO
      have HB := Lib.hid hb
      clear hO hb
      go_wp2_with fail
      go_ret
      exact ⟨_, rfl, HO.out, HB.out⟩
end Go.Proofs.YtpmedgibnnonkaaDoor

/- Are volumes not too many, nor too long? -/
set_option maxRecDepth 4000
namespace Go.Proofs.YtpmedgibnnonkaaDoor
open Go Go.RowKit
def okV (x : Vl) : Bool := decide (x.1.size ≤ 100) && decide (x.2.length ≤ 50)
def fairV (l : List Vl) : Bool := l.all okV && decide (l.length ≤ 20)
theorem fairV_len {l : List Vl} (h : fairV l = true) : l.length ≤ 20 := by unfold fairV at h; simp at h; exact h.2
theorem fairV_each {l : List Vl} (h : fairV l = true) : ∀ x ∈ l, x.2.length ≤ 50 := by
  intro x hx
  unfold fairV at h
  have h := (Bool.and_eq_true _ _ ▸ h).1
  have := List.all_eq_true.1 h x hx
  unfold okV at this
  simp at this
  exact this.2
set_option maxHeartbeats 1600000 in
theorem fairV_any (A : Option Addr) (n c : Nat) (l : List Vl) (w : World) (h : VolsAt w (.slice A n c) l) (hn : n ≤ maxLen) :
    Calls Tryd.prog 7 #[.slice A n c] w fun e w' => e = .returned (.bool (fairV l)) ∧ w = w' := by
  have hln := vols_len h
  have HF := Lib.hid (fun k (hk : k < l.length) => vols_get h hk)
  have HL := Lib.hid hln
  obtain ⟨G, hG⟩ : ∃ G, fairV l = G := ⟨_, rfl⟩
  have HALL : Hid ((∀ k x, l[k]? = some x → okV x = true) → G = decide (n ≤ 20)) := Lib.hid fun h => by
    rw [← hG]
    unfold fairV
    rw [List.all_eq_true.2 (fun x hx => by obtain ⟨k, hk⟩ := List.getElem?_of_mem hx; exact h k x hk), hln]
    rfl
  have HNO : Hid (∀ k x, l[k]? = some x → okV x = false → G = false) := Lib.hid fun k x hx h => by
    rw [← hG]
    unfold fairV
    have : l.all okV = false := by
      rw [Bool.eq_false_iff]
      intro h2
      rw [List.all_eq_true.1 h2 x (List.mem_of_getElem? hx)] at h
      cases h
    rw [this]; rfl
  have HN9 : Hid (n ≤ 9223372036854775807) := Lib.hid (by unfold maxLen at hn; omega)
  rw [hG]
  clear h hln hG hn
  go_enter Tryd.func7, Tryd.ntmps7
  go_wp2_with fail
  go_loopw [3] (fun i wr => ∃ k : Nat, k ≤ n ∧ i = .int .i64 k ∧ Hid (∀ j < k, ∀ x, l[j]? = some x → okV x = true) ∧ w = wr) (fun i _ => n - (intOf i).toNat)
  case atStart => exact ⟨0, by omega, rfl, Lib.hid (fun j hj => by omega), rfl⟩
  case round =>
    obtain ⟨k, hk, rfl, HE, rfl⟩ := hrel
    by_cases hlt : k < n
    · obtain ⟨b, o, s0, L, B, m, c1, hx, rfl, hbw, hr, _, hlm, _⟩ := HF.out k (by rw [HL.out]; exact hlt)
      obtain ⟨O, hO⟩ : ∃ O, o + k * 2 = O := ⟨_, rfl⟩
      rw [hO] at hr
      have c0 : w.cell? ⟨b, O, none⟩ = some (.string s0) := hr 0 _ rfl
      have c1' : w.cell? ⟨b, O + 1, none⟩ = some (.slice B m c1) := hr 1 _ rfl
      have hk0 : (0 : Int) ≤ (k : Int) := by omega
      have hk1 : (k : Int) < (n : Int) := by omega
      have hn9 := HN9.out
      obtain ⟨z, hz⟩ : ∃ z, s0.size = z := ⟨_, rfl⟩
      have HOK : Hid (okV (s0, L) = (decide (z ≤ 100) && decide (m ≤ 50))) := Lib.hid (by rw [← hz, ← hlm]; rfl)
      have HX := Lib.hid hx
      clear hr hx hlm
      by_cases h1 : 100 < z
      · have hd1 : decide (100 < z) = true := decide_eq_true h1
        have hd1' : decide ((100 : Int) < (z : Int)) = true := decide_eq_true (by omega)
        have hG := HNO.out k _ HX.out (by rw [HOK.out, decide_eq_false (by omega)]; rfl)
        go_wp2_with fail
        go_ret
        exact ⟨by rw [hG]; rfl, rfl⟩
      have hd1 : decide (100 < z) = false := decide_eq_false h1
      have hd1' : decide ((100 : Int) < (z : Int)) = false := decide_eq_false (by omega)
      by_cases h2 : 50 < m
      · have hd2 : decide (50 < m) = true := decide_eq_true h2
        have hd2' : decide ((50 : Int) < (m : Int)) = true := decide_eq_true (by omega)
        have hG := HNO.out k _ HX.out (by rw [HOK.out, decide_eq_false (p := m ≤ 50) (by omega), Bool.and_false])
        go_wp2_with fail
        go_ret
        exact ⟨by rw [hG]; rfl, rfl⟩
      have hd2 : decide (50 < m) = false := decide_eq_false h2
      have hd2' : decide ((50 : Int) < (m : Int)) = false := decide_eq_false (by omega)
      have HKX : Hid (okV (s0, L) = true) := Lib.hid (by rw [HOK.out, decide_eq_true (p := z ≤ 100) (by omega), decide_eq_true (p := m ≤ 50) (by omega)]; rfl)
      go_wp2_with fail
      refine ⟨⟨k + 1, by omega, by go_num, Lib.hid fun j hj x hx => ?_, by first | rfl | trivial⟩, by simp [intOf]; omega⟩
      rcases Nat.lt_or_eq_of_le (Nat.le_of_lt_succ hj) with h | rfl
      · exact HE.out j h x hx
      · rw [HX.out] at hx; cases hx; exact HKX.out
    · obtain rfl : k = n := by omega
      have hG := HALL.out (fun j x hx => HE.out j (by rw [← HL.out]; exact (List.getElem?_eq_some_iff.1 hx).1) x hx)
      have hn9 := HN9.out
      by_cases h20 : k ≤ 20
      · have hd : decide (k ≤ 20) = true := decide_eq_true h20
        have hd2 : decide ((k : Int) ≤ 20) = true := decide_eq_true (by omega)
        rw [hd] at hG
        go_wp2_with fail
        go_ret
        exact ⟨by rw [hG]; rfl, rfl⟩
      · have hd : decide (k ≤ 20) = false := decide_eq_false h20
        have hd2 : decide ((k : Int) ≤ 20) = false := decide_eq_false (by omega)
        rw [hd] at hG
        go_wp2_with fail
        go_ret
        exact ⟨by rw [hG]; rfl, rfl⟩
end Go.Proofs.YtpmedgibnnonkaaDoor
