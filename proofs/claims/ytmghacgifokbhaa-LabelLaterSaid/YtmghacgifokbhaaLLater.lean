/- The statement LabelLater: its walk. -/
import Derived.Test.YtmghacgifokbhaaLabelWakes
set_option maxRecDepth 4000
namespace Go.Proofs.Ytmghacgifokbhaa
open Go Go.RowKit
theorem later_self (e s : BitVec 32) : laterB e s e s = false := by unfold laterB; simp
theorem later_trans {a b c d e f : BitVec 32} (h1 : laterB a b c d = true) (h2 : laterB c d e f = true) : laterB a b e f = true := by
  unfold laterB at *
  simp only [Bool.or_eq_true, Bool.and_eq_true, decide_eq_true_eq] at *
  rcases h1 with h1 | ⟨rfl, h1⟩ <;> rcases h2 with h2 | ⟨rfl, h2⟩
  · exact .inl (by omega)
  · exact .inl h1
  · exact .inl h2
  · exact .inr ⟨rfl, by omega⟩
theorem wd_beq (x y : BitVec 32) : (wd x == wd y) = decide (x = y) := by
  by_cases h : x = y
  · subst h; simp
  · rw [decide_eq_false h]; exact beq_eq_false_iff_ne.2 fun e => h (wd_inj e)
theorem wd_le (x y : BitVec 32) : decide (wd x ≤ wd y) = decide (x.toNat ≤ y.toNat) := by unfold wd; apply decide_eq_decide.2; omega
/- of one and the other: the same; or just one is later -/
theorem later_case (a b c d : BitVec 32) :
    ((wd a == wd c) = true ∧ (wd b == wd d) = true ∧ false = laterB a b c d ∧ false = laterB c d a b ∧ decide (wd a ≤ wd c) = true) ∨
    ((wd a == wd c) = true ∧ (wd b == wd d) = false ∧ true = laterB a b c d ∧ false = laterB c d a b ∧ decide (wd a ≤ wd c) = true) ∨
    ((wd a == wd c) = true ∧ (wd b == wd d) = false ∧ false = laterB a b c d ∧ true = laterB c d a b ∧ decide (wd a ≤ wd c) = true) ∨
    ((wd a == wd c) = false ∧ true = laterB a b c d ∧ false = laterB c d a b ∧ decide (wd a ≤ wd c) = false) ∨
    ((wd a == wd c) = false ∧ false = laterB a b c d ∧ true = laterB c d a b ∧ decide (wd a ≤ wd c) = true) := by
  rw [wd_beq, wd_beq, wd_le]
  unfold laterB
  by_cases h : a = c
  · subst h
    by_cases h2 : b = d
    · subst h2; exact .inl (by simp)
    · have hne : b.toNat ≠ d.toNat := fun e => h2 (BitVec.eq_of_toNat_eq e)
      by_cases hlt : d.toNat < b.toNat
      · exact .inr (.inl (by simp [h2, hlt]; omega))
      · exact .inr (.inr (.inl (by simp [h2]; omega)))
  · have hne : a.toNat ≠ c.toNat := fun e => h (BitVec.eq_of_toNat_eq e)
    have h' : ¬ c = a := fun e => h e.symm
    by_cases hlt : c.toNat < a.toNat
    · exact .inr (.inr (.inr (.inl (by simp [h, h', hlt]; omega))))
    · exact .inr (.inr (.inr (.inr (by simp [h, h']; omega))))
set_option maxRecDepth 20000 in
set_option maxHeartbeats 1600000 in
theorem llater_walk (D : LabelOps) (l : List (BitVec 32)) (w : World) (hl : l.length = 6) :
    Calls Try.prog 5 #[.agg (ws l)] w fun e w' => e = .returned (.bool true) ∧ Below w.heap.size w w' := by
  obtain ⟨n0, n1, n2, n3, n4, n5, rfl⟩ : ∃ n0 n1 n2 n3 n4 n5, l = [n0, n1, n2, n3, n4, n5] := by
    match l, hl with
    | [a, b, c, d, e, f], _ => exact ⟨a, b, c, d, e, f, rfl⟩
  have HCASE0 := later_case n0 n1 n2 n3
  obtain ⟨va, hva⟩ : ∃ va, laterB n0 n1 n2 n3 = va := ⟨_, rfl⟩
  obtain ⟨vb, hvb⟩ : ∃ vb, laterB n2 n3 n0 n1 = vb := ⟨_, rfl⟩
  rw [hva, hvb] at HCASE0
  have HCASE := Lib.hid HCASE0
  have HA := Lib.hid hva
  have HB := Lib.hid hvb
  have HSELF0 := fun w => D.later n0 n1 n0 n1 w
  rw [later_self] at HSELF0
  have HSELF := Lib.hid HSELF0
  clear HCASE0 hva hvb hl HSELF0
  have HR0 := Lib.hid (Row.fresh w 44 (ws [n0, n1, n2, n3, n4, n5]))
  have HB0 := Lib.hid ((Below.refl w.heap.size w).alloc (Nat.le_refl _) (.cells (ws [n0, n1, n2, n3, n4, n5]) 44))
  go_enter Try.func5, Try.ntmps5
  go_upto_region 1 with fail
  obtain ⟨g, hg⟩ : ∃ g, w.heap.size = g := ⟨_, rfl⟩
  rw [hg] at HR0
  rw [hg]
  clear hg
  generalize w.alloc (.cells (ws [n0, n1, n2, n3, n4, n5]) 44) = W1 at *
  have hF0 : Wl [fun W => Row W g 44 (ws [n0, n1, n2, n3, n4, n5]) ∧ Below w.heap.size w W] 0 W1.drew := ⟨HR0.out.call (Below.refl _ _).drew, HB0.out.trans ((Below.refl _ _).drew.mono HB0.out.size)⟩
  clear HR0 HB0
  refine wp_region_phs [is (.pointer (some ⟨g, 0, none⟩)), is (.int .u32 (wd n0)), is (.pointer (some ⟨g, 1, none⟩)), is (.int .u32 (wd n1)), is (.pointer (some ⟨g, 2, none⟩)), is (.int .u32 (wd n2)), is (.pointer (some ⟨g, 3, none⟩)), is (.int .u32 (wd n3)), is (.bool va), is (.pointer (some ⟨g, 2, none⟩)), is (.int .u32 (wd n2)), is (.pointer (some ⟨g, 3, none⟩)), is (.int .u32 (wd n3)), is (.pointer (some ⟨g, 0, none⟩)), is (.int .u32 (wd n0)), is (.pointer (some ⟨g, 1, none⟩)), is (.int .u32 (wd n1)), is (.bool vb), is (.bool va), is (.bool vb)] [true, true, true, true, true, true, true, true, true, true, true, true, true, true, true, true, true, true, true, true] [(fun W => Row W g 44 (ws [n0, n1, n2, n3, n4, n5]) ∧ Below w.heap.size w W)] [false, false, false, false, false, false, false, false, false, false, false, false, false, false, false, false, false, false, false, false] [some 0, some 0, some 0, some 0, some 0, some 0, some 0, some 0, some 0, some 0, some 0, some 0, some 0, some 0, some 0, some 0, some 0, some 0, some 0, some 0] [some 6, some 7, some 8, some 9, some 10, some 11, some 12, some 13, some 14, some 15, some 16, some 17, some 18, some 19, some 20, some 21, some 22, some 23, some 3, some 4] 20 0 (fun _ => true) rfl rfl (by kernel_rfl) (by kernel_rfl) (by kernel_rfl) (by kernel_rfl) ?_ ?_ ?_ ?_ ?_ ?_
  · repeat first | exact wok_nil | refine wok_cons (by first | exact fun _ _ h k => ⟨h.1.call k, h.2.trans (k.mono h.2.size)⟩) ?_
  · repeat first | exact vok_nil | refine vok_rig (by first | exact fun _ _ _ h => h) ?_ | refine vok_soft (by first | exact fun _ _ _ h _ => h) ?_
  · exact hF0
  · repeat first | exact all_end (by decide) | refine all_cons (by first | exact rfl | exact ⟨rfl, fun _ _ h => Or.inl h⟩ | exact ⟨rfl, fun _ _ h => Or.inr ⟨h, rfl⟩⟩) ?_
  · refine allp_mild 0 rfl rfl rfl (fun a x W hout hin hP => ?_) ?_
    · have e1 : a.tmps[1]? = some (.pointer (some ⟨g, 0, none⟩)) := (hout 1 (by kernel_rfl)).trans rfl
      clear hin hout
      intro K Q hK
      go_simp
      exact hK _ _ ⟨Same.refl _, rfl⟩
    refine allp_mild 0 rfl rfl rfl (fun a x W hout hin hP => ?_) ?_
    · have e6 := hin.is 0 6 (by kernel_rfl) (by decide) (by kernel_rfl) (by kernel_rfl) _ rfl
      have hc : W.cell? ⟨g, 0, none⟩ = some (.int .u32 (wd n0)) := hP.1.get rfl
      clear hP
      clear hin hout
      intro K Q hK
      go_simp
      exact hK _ _ ⟨Same.refl _, rfl⟩
    refine allp_mild 0 rfl rfl rfl (fun a x W hout hin hP => ?_) ?_
    · have e1 : a.tmps[1]? = some (.pointer (some ⟨g, 0, none⟩)) := (hout 1 (by kernel_rfl)).trans rfl
      clear hin hout
      intro K Q hK
      go_simp
      exact hK _ _ ⟨Same.refl _, rfl⟩
    refine allp_mild 0 rfl rfl rfl (fun a x W hout hin hP => ?_) ?_
    · have e8 := hin.is 2 8 (by kernel_rfl) (by decide) (by kernel_rfl) (by kernel_rfl) _ rfl
      have hc : W.cell? ⟨g, 1, none⟩ = some (.int .u32 (wd n1)) := hP.1.get rfl
      clear hP
      clear hin hout
      intro K Q hK
      go_simp
      exact hK _ _ ⟨Same.refl _, rfl⟩
    refine allp_mild 0 rfl rfl rfl (fun a x W hout hin hP => ?_) ?_
    · have e1 : a.tmps[1]? = some (.pointer (some ⟨g, 0, none⟩)) := (hout 1 (by kernel_rfl)).trans rfl
      clear hin hout
      intro K Q hK
      go_simp
      exact hK _ _ ⟨Same.refl _, rfl⟩
    refine allp_mild 0 rfl rfl rfl (fun a x W hout hin hP => ?_) ?_
    · have e10 := hin.is 4 10 (by kernel_rfl) (by decide) (by kernel_rfl) (by kernel_rfl) _ rfl
      have hc : W.cell? ⟨g, 2, none⟩ = some (.int .u32 (wd n2)) := hP.1.get rfl
      clear hP
      clear hin hout
      intro K Q hK
      go_simp
      exact hK _ _ ⟨Same.refl _, rfl⟩
    refine allp_mild 0 rfl rfl rfl (fun a x W hout hin hP => ?_) ?_
    · have e1 : a.tmps[1]? = some (.pointer (some ⟨g, 0, none⟩)) := (hout 1 (by kernel_rfl)).trans rfl
      clear hin hout
      intro K Q hK
      go_simp
      exact hK _ _ ⟨Same.refl _, rfl⟩
    refine allp_mild 0 rfl rfl rfl (fun a x W hout hin hP => ?_) ?_
    · have e12 := hin.is 6 12 (by kernel_rfl) (by decide) (by kernel_rfl) (by kernel_rfl) _ rfl
      have hc : W.cell? ⟨g, 3, none⟩ = some (.int .u32 (wd n3)) := hP.1.get rfl
      clear hP
      clear hin hout
      intro K Q hK
      go_simp
      exact hK _ _ ⟨Same.refl _, rfl⟩
    refine allp_mild 0 rfl rfl rfl (fun a x W hout hin hP => ?_) ?_
    · have e7 := hin.is 1 7 (by kernel_rfl) (by decide) (by kernel_rfl) (by kernel_rfl) _ rfl
      have e9 := hin.is 3 9 (by kernel_rfl) (by decide) (by kernel_rfl) (by kernel_rfl) _ rfl
      have e11 := hin.is 5 11 (by kernel_rfl) (by decide) (by kernel_rfl) (by kernel_rfl) _ rfl
      have e13 := hin.is 7 13 (by kernel_rfl) (by decide) (by kernel_rfl) (by kernel_rfl) _ rfl
      have C := D.later n0 n1 n2 n3 W
      rw [HA.out] at C
      clear hP
      clear hin hout
      intro K Q hK
      go_simp
      refine C.mono ?_
      rintro e W' ⟨rfl, hb⟩
      exact hK _ _ ⟨hb, rfl⟩
    refine allp_mild 0 rfl rfl rfl (fun a x W hout hin hP => ?_) ?_
    · have e1 : a.tmps[1]? = some (.pointer (some ⟨g, 0, none⟩)) := (hout 1 (by kernel_rfl)).trans rfl
      clear hin hout
      intro K Q hK
      go_simp
      exact hK _ _ ⟨Same.refl _, rfl⟩
    refine allp_mild 0 rfl rfl rfl (fun a x W hout hin hP => ?_) ?_
    · have e15 := hin.is 9 15 (by kernel_rfl) (by decide) (by kernel_rfl) (by kernel_rfl) _ rfl
      have hc : W.cell? ⟨g, 2, none⟩ = some (.int .u32 (wd n2)) := hP.1.get rfl
      clear hP
      clear hin hout
      intro K Q hK
      go_simp
      exact hK _ _ ⟨Same.refl _, rfl⟩
    refine allp_mild 0 rfl rfl rfl (fun a x W hout hin hP => ?_) ?_
    · have e1 : a.tmps[1]? = some (.pointer (some ⟨g, 0, none⟩)) := (hout 1 (by kernel_rfl)).trans rfl
      clear hin hout
      intro K Q hK
      go_simp
      exact hK _ _ ⟨Same.refl _, rfl⟩
    refine allp_mild 0 rfl rfl rfl (fun a x W hout hin hP => ?_) ?_
    · have e17 := hin.is 11 17 (by kernel_rfl) (by decide) (by kernel_rfl) (by kernel_rfl) _ rfl
      have hc : W.cell? ⟨g, 3, none⟩ = some (.int .u32 (wd n3)) := hP.1.get rfl
      clear hP
      clear hin hout
      intro K Q hK
      go_simp
      exact hK _ _ ⟨Same.refl _, rfl⟩
    refine allp_mild 0 rfl rfl rfl (fun a x W hout hin hP => ?_) ?_
    · have e1 : a.tmps[1]? = some (.pointer (some ⟨g, 0, none⟩)) := (hout 1 (by kernel_rfl)).trans rfl
      clear hin hout
      intro K Q hK
      go_simp
      exact hK _ _ ⟨Same.refl _, rfl⟩
    refine allp_mild 0 rfl rfl rfl (fun a x W hout hin hP => ?_) ?_
    · have e19 := hin.is 13 19 (by kernel_rfl) (by decide) (by kernel_rfl) (by kernel_rfl) _ rfl
      have hc : W.cell? ⟨g, 0, none⟩ = some (.int .u32 (wd n0)) := hP.1.get rfl
      clear hP
      clear hin hout
      intro K Q hK
      go_simp
      exact hK _ _ ⟨Same.refl _, rfl⟩
    refine allp_mild 0 rfl rfl rfl (fun a x W hout hin hP => ?_) ?_
    · have e1 : a.tmps[1]? = some (.pointer (some ⟨g, 0, none⟩)) := (hout 1 (by kernel_rfl)).trans rfl
      clear hin hout
      intro K Q hK
      go_simp
      exact hK _ _ ⟨Same.refl _, rfl⟩
    refine allp_mild 0 rfl rfl rfl (fun a x W hout hin hP => ?_) ?_
    · have e21 := hin.is 15 21 (by kernel_rfl) (by decide) (by kernel_rfl) (by kernel_rfl) _ rfl
      have hc : W.cell? ⟨g, 1, none⟩ = some (.int .u32 (wd n1)) := hP.1.get rfl
      clear hP
      clear hin hout
      intro K Q hK
      go_simp
      exact hK _ _ ⟨Same.refl _, rfl⟩
    refine allp_mild 0 rfl rfl rfl (fun a x W hout hin hP => ?_) ?_
    · have e16 := hin.is 10 16 (by kernel_rfl) (by decide) (by kernel_rfl) (by kernel_rfl) _ rfl
      have e18 := hin.is 12 18 (by kernel_rfl) (by decide) (by kernel_rfl) (by kernel_rfl) _ rfl
      have e20 := hin.is 14 20 (by kernel_rfl) (by decide) (by kernel_rfl) (by kernel_rfl) _ rfl
      have e22 := hin.is 16 22 (by kernel_rfl) (by decide) (by kernel_rfl) (by kernel_rfl) _ rfl
      have C := D.later n2 n3 n0 n1 W
      rw [HB.out] at C
      clear hP
      clear hin hout
      intro K Q hK
      go_simp
      refine C.mono ?_
      rintro e W' ⟨rfl, hb⟩
      exact hK _ _ ⟨hb, rfl⟩
    refine allp_mild 0 rfl rfl rfl (fun a x W hout hin hP => ?_) ?_
    · have e14 := hin.is 8 14 (by kernel_rfl) (by decide) (by kernel_rfl) (by kernel_rfl) _ rfl
      exact does_assign rfl e14 ⟨Same.refl _, rfl⟩
    refine allp_mild 0 rfl rfl rfl (fun a x W hout hin hP => ?_) ?_
    · have e23 := hin.is 17 23 (by kernel_rfl) (by decide) (by kernel_rfl) (by kernel_rfl) _ rfl
      exact does_assign rfl e23 ⟨Same.refl _, rfl⟩
    exact all_end (by decide)
  · intro x W hP hV
    have h18 : x 18 = .bool va := hV 18 (by decide) (.inl (by kernel_rfl))
    have h19 : x 19 = .bool vb := hV 19 (by decide) (.inl (by kernel_rfl))
    have HR := Lib.hid hP.1
    have HBl := Lib.hid hP.2
    clear hV hP
    simp only [putL, Act.put, List.setIfInBounds_toArray, List.set_cons_succ, List.set_cons_zero, h18, h19]
    refine wpAnyH_done (by kernel_rfl) ?_ _
    clear h18 h19
    have c0 : W.cell? ⟨g, 0, none⟩ = some (.int .u32 (wd n0)) := HR.out.get rfl
    have c1 : W.cell? ⟨g, 1, none⟩ = some (.int .u32 (wd n1)) := HR.out.get rfl
    have c2 : W.cell? ⟨g, 2, none⟩ = some (.int .u32 (wd n2)) := HR.out.get rfl
    have c3 : W.cell? ⟨g, 3, none⟩ = some (.int .u32 (wd n3)) := HR.out.get rfl
    rcases HCASE.out with ⟨hs0, hs1, rfl, rfl, hp⟩ | ⟨hs0, hs1, rfl, rfl, hp⟩ | ⟨hs0, hs1, rfl, rfl, hp⟩ | ⟨hs0, rfl, rfl, hp⟩ | ⟨hs0, rfl, rfl, hp⟩
    · go_wp2_with fail
      refine (HSELF.out W).mono ?_
      rintro e W2 ⟨rfl, hb2⟩
      have HR2 := Lib.hid (HR.out.call hb2)
      have HBl2 := Lib.hid (HBl.out.trans (hb2.mono HBl.out.size))
      clear c0 c1 c2 c3 hb2
      have c0 : W2.cell? ⟨g, 0, none⟩ = some (.int .u32 (wd n0)) := HR2.out.get rfl
      have c1 : W2.cell? ⟨g, 1, none⟩ = some (.int .u32 (wd n1)) := HR2.out.get rfl
      have c2 : W2.cell? ⟨g, 2, none⟩ = some (.int .u32 (wd n2)) := HR2.out.get rfl
      have c3 : W2.cell? ⟨g, 3, none⟩ = some (.int .u32 (wd n3)) := HR2.out.get rfl
      go_wp2_with fail
      refine (lwakes_any D W2).mono ?_
      rintro e W9 ⟨rfl, hb9⟩
      go_wp2_with fail
      go_ret
      exact ⟨rfl, HBl2.out.trans (hb9.mono HBl2.out.size)⟩
    · go_wp2_with fail
      refine (HSELF.out W).mono ?_
      rintro e W2 ⟨rfl, hb2⟩
      have HR2 := Lib.hid (HR.out.call hb2)
      have HBl2 := Lib.hid (HBl.out.trans (hb2.mono HBl.out.size))
      clear c0 c1 c2 c3 hb2
      have c0 : W2.cell? ⟨g, 0, none⟩ = some (.int .u32 (wd n0)) := HR2.out.get rfl
      have c1 : W2.cell? ⟨g, 1, none⟩ = some (.int .u32 (wd n1)) := HR2.out.get rfl
      have c2 : W2.cell? ⟨g, 2, none⟩ = some (.int .u32 (wd n2)) := HR2.out.get rfl
      have c3 : W2.cell? ⟨g, 3, none⟩ = some (.int .u32 (wd n3)) := HR2.out.get rfl
      have c4 : W2.cell? ⟨g, 4, none⟩ = some (.int .u32 (wd n4)) := HR2.out.get rfl
      have c5 : W2.cell? ⟨g, 5, none⟩ = some (.int .u32 (wd n5)) := HR2.out.get rfl
      have C3 := D.later n2 n3 n4 n5 W2
      cases hl2 : laterB n2 n3 n4 n5 with
      | false =>
        rw [hl2] at C3
        clear hl2
        go_wp2_with fail
        refine C3.mono ?_
        rintro e W3 ⟨rfl, hb3⟩
        have HR3 := Lib.hid (HR2.out.call hb3)
        have HBl3 := Lib.hid (HBl2.out.trans (hb3.mono HBl2.out.size))
        clear c0 c1 c2 c3 c4 c5 hb3 C3
        have c0 : W3.cell? ⟨g, 0, none⟩ = some (.int .u32 (wd n0)) := HR3.out.get rfl
        have c1 : W3.cell? ⟨g, 1, none⟩ = some (.int .u32 (wd n1)) := HR3.out.get rfl
        have c2 : W3.cell? ⟨g, 2, none⟩ = some (.int .u32 (wd n2)) := HR3.out.get rfl
        have c3 : W3.cell? ⟨g, 3, none⟩ = some (.int .u32 (wd n3)) := HR3.out.get rfl
        go_wp2_with fail
        refine (lwakes_any D W3).mono ?_
        rintro e W9 ⟨rfl, hb9⟩
        go_wp2_with fail
        go_ret
        exact ⟨rfl, HBl3.out.trans (hb9.mono HBl3.out.size)⟩
      | true =>
        rw [hl2] at C3
        have HL3 := Lib.hid (later_trans HA.out hl2)
        clear hl2
        go_wp2_with fail
        refine C3.mono ?_
        rintro e W3 ⟨rfl, hb3⟩
        have HR3 := Lib.hid (HR2.out.call hb3)
        have HBl3 := Lib.hid (HBl2.out.trans (hb3.mono HBl2.out.size))
        clear c0 c1 c2 c3 c4 c5 hb3 C3
        have c0 : W3.cell? ⟨g, 0, none⟩ = some (.int .u32 (wd n0)) := HR3.out.get rfl
        have c1 : W3.cell? ⟨g, 1, none⟩ = some (.int .u32 (wd n1)) := HR3.out.get rfl
        have c2 : W3.cell? ⟨g, 2, none⟩ = some (.int .u32 (wd n2)) := HR3.out.get rfl
        have c3 : W3.cell? ⟨g, 3, none⟩ = some (.int .u32 (wd n3)) := HR3.out.get rfl
        have c4 : W3.cell? ⟨g, 4, none⟩ = some (.int .u32 (wd n4)) := HR3.out.get rfl
        have c5 : W3.cell? ⟨g, 5, none⟩ = some (.int .u32 (wd n5)) := HR3.out.get rfl
        have C4 := D.later n0 n1 n4 n5 W3
        rw [HL3.out] at C4
        go_wp2_with fail
        refine C4.mono ?_
        rintro e W4 ⟨rfl, hb4⟩
        have HR4 := Lib.hid (HR3.out.call hb4)
        have HBl4 := Lib.hid (HBl3.out.trans (hb4.mono HBl3.out.size))
        clear c0 c1 c2 c3 c4 c5 hb4 C4
        have c0 : W4.cell? ⟨g, 0, none⟩ = some (.int .u32 (wd n0)) := HR4.out.get rfl
        have c1 : W4.cell? ⟨g, 1, none⟩ = some (.int .u32 (wd n1)) := HR4.out.get rfl
        have c2 : W4.cell? ⟨g, 2, none⟩ = some (.int .u32 (wd n2)) := HR4.out.get rfl
        have c3 : W4.cell? ⟨g, 3, none⟩ = some (.int .u32 (wd n3)) := HR4.out.get rfl
        go_wp2_with fail
        refine (lwakes_any D W4).mono ?_
        rintro e W9 ⟨rfl, hb9⟩
        go_wp2_with fail
        go_ret
        exact ⟨rfl, HBl4.out.trans (hb9.mono HBl4.out.size)⟩
    · go_wp2_with fail
      refine (HSELF.out W).mono ?_
      rintro e W2 ⟨rfl, hb2⟩
      have HR2 := Lib.hid (HR.out.call hb2)
      have HBl2 := Lib.hid (HBl.out.trans (hb2.mono HBl.out.size))
      clear c0 c1 c2 c3 hb2
      have c0 : W2.cell? ⟨g, 0, none⟩ = some (.int .u32 (wd n0)) := HR2.out.get rfl
      have c1 : W2.cell? ⟨g, 1, none⟩ = some (.int .u32 (wd n1)) := HR2.out.get rfl
      have c2 : W2.cell? ⟨g, 2, none⟩ = some (.int .u32 (wd n2)) := HR2.out.get rfl
      have c3 : W2.cell? ⟨g, 3, none⟩ = some (.int .u32 (wd n3)) := HR2.out.get rfl
      go_wp2_with fail
      refine (lwakes_any D W2).mono ?_
      rintro e W9 ⟨rfl, hb9⟩
      go_wp2_with fail
      go_ret
      exact ⟨rfl, HBl2.out.trans (hb9.mono HBl2.out.size)⟩
    · go_wp2_with fail
      refine (HSELF.out W).mono ?_
      rintro e W2 ⟨rfl, hb2⟩
      have HR2 := Lib.hid (HR.out.call hb2)
      have HBl2 := Lib.hid (HBl.out.trans (hb2.mono HBl.out.size))
      clear c0 c1 c2 c3 hb2
      have c0 : W2.cell? ⟨g, 0, none⟩ = some (.int .u32 (wd n0)) := HR2.out.get rfl
      have c1 : W2.cell? ⟨g, 1, none⟩ = some (.int .u32 (wd n1)) := HR2.out.get rfl
      have c2 : W2.cell? ⟨g, 2, none⟩ = some (.int .u32 (wd n2)) := HR2.out.get rfl
      have c3 : W2.cell? ⟨g, 3, none⟩ = some (.int .u32 (wd n3)) := HR2.out.get rfl
      have c4 : W2.cell? ⟨g, 4, none⟩ = some (.int .u32 (wd n4)) := HR2.out.get rfl
      have c5 : W2.cell? ⟨g, 5, none⟩ = some (.int .u32 (wd n5)) := HR2.out.get rfl
      have C3 := D.later n2 n3 n4 n5 W2
      cases hl2 : laterB n2 n3 n4 n5 with
      | false =>
        rw [hl2] at C3
        clear hl2
        go_wp2_with fail
        refine C3.mono ?_
        rintro e W3 ⟨rfl, hb3⟩
        have HR3 := Lib.hid (HR2.out.call hb3)
        have HBl3 := Lib.hid (HBl2.out.trans (hb3.mono HBl2.out.size))
        clear c0 c1 c2 c3 c4 c5 hb3 C3
        have c0 : W3.cell? ⟨g, 0, none⟩ = some (.int .u32 (wd n0)) := HR3.out.get rfl
        have c1 : W3.cell? ⟨g, 1, none⟩ = some (.int .u32 (wd n1)) := HR3.out.get rfl
        have c2 : W3.cell? ⟨g, 2, none⟩ = some (.int .u32 (wd n2)) := HR3.out.get rfl
        have c3 : W3.cell? ⟨g, 3, none⟩ = some (.int .u32 (wd n3)) := HR3.out.get rfl
        go_wp2_with fail
        refine (lwakes_any D W3).mono ?_
        rintro e W9 ⟨rfl, hb9⟩
        go_wp2_with fail
        go_ret
        exact ⟨rfl, HBl3.out.trans (hb9.mono HBl3.out.size)⟩
      | true =>
        rw [hl2] at C3
        have HL3 := Lib.hid (later_trans HA.out hl2)
        clear hl2
        go_wp2_with fail
        refine C3.mono ?_
        rintro e W3 ⟨rfl, hb3⟩
        have HR3 := Lib.hid (HR2.out.call hb3)
        have HBl3 := Lib.hid (HBl2.out.trans (hb3.mono HBl2.out.size))
        clear c0 c1 c2 c3 c4 c5 hb3 C3
        have c0 : W3.cell? ⟨g, 0, none⟩ = some (.int .u32 (wd n0)) := HR3.out.get rfl
        have c1 : W3.cell? ⟨g, 1, none⟩ = some (.int .u32 (wd n1)) := HR3.out.get rfl
        have c2 : W3.cell? ⟨g, 2, none⟩ = some (.int .u32 (wd n2)) := HR3.out.get rfl
        have c3 : W3.cell? ⟨g, 3, none⟩ = some (.int .u32 (wd n3)) := HR3.out.get rfl
        have c4 : W3.cell? ⟨g, 4, none⟩ = some (.int .u32 (wd n4)) := HR3.out.get rfl
        have c5 : W3.cell? ⟨g, 5, none⟩ = some (.int .u32 (wd n5)) := HR3.out.get rfl
        have C4 := D.later n0 n1 n4 n5 W3
        rw [HL3.out] at C4
        go_wp2_with fail
        refine C4.mono ?_
        rintro e W4 ⟨rfl, hb4⟩
        have HR4 := Lib.hid (HR3.out.call hb4)
        have HBl4 := Lib.hid (HBl3.out.trans (hb4.mono HBl3.out.size))
        clear c0 c1 c2 c3 c4 c5 hb4 C4
        have c0 : W4.cell? ⟨g, 0, none⟩ = some (.int .u32 (wd n0)) := HR4.out.get rfl
        have c1 : W4.cell? ⟨g, 1, none⟩ = some (.int .u32 (wd n1)) := HR4.out.get rfl
        have c2 : W4.cell? ⟨g, 2, none⟩ = some (.int .u32 (wd n2)) := HR4.out.get rfl
        have c3 : W4.cell? ⟨g, 3, none⟩ = some (.int .u32 (wd n3)) := HR4.out.get rfl
        go_wp2_with fail
        refine (lwakes_any D W4).mono ?_
        rintro e W9 ⟨rfl, hb9⟩
        go_wp2_with fail
        go_ret
        exact ⟨rfl, HBl4.out.trans (hb9.mono HBl4.out.size)⟩
    · go_wp2_with fail
      refine (HSELF.out W).mono ?_
      rintro e W2 ⟨rfl, hb2⟩
      have HR2 := Lib.hid (HR.out.call hb2)
      have HBl2 := Lib.hid (HBl.out.trans (hb2.mono HBl.out.size))
      clear c0 c1 c2 c3 hb2
      have c0 : W2.cell? ⟨g, 0, none⟩ = some (.int .u32 (wd n0)) := HR2.out.get rfl
      have c1 : W2.cell? ⟨g, 1, none⟩ = some (.int .u32 (wd n1)) := HR2.out.get rfl
      have c2 : W2.cell? ⟨g, 2, none⟩ = some (.int .u32 (wd n2)) := HR2.out.get rfl
      have c3 : W2.cell? ⟨g, 3, none⟩ = some (.int .u32 (wd n3)) := HR2.out.get rfl
      go_wp2_with fail
      refine (lwakes_any D W2).mono ?_
      rintro e W9 ⟨rfl, hb9⟩
      go_wp2_with fail
      go_ret
      exact ⟨rfl, HBl2.out.trans (hb9.mono HBl2.out.size)⟩
end Go.Proofs.Ytmghacgifokbhaa
