/- The statement FatesPlay: its walk. -/
import Derived.Test.YtlncdokeecmnjaaFatOpen
set_option maxRecDepth 4000
namespace Go.Proofs.Ytlncdokeecmnjaa
open Go Go.RowKit
set_option maxRecDepth 20000 in
set_option maxHeartbeats 3200000 in
theorem ftplay_walk (A : Option Addr) (n c : Nat) (l : List (Bool × List Int)) (z : Int) (w : World) (h : StepsF w (.slice A n c) l) (hz : (Lit.int .i64 z).wf = true) :
    Calls Try.prog 3 #[.slice A n c, .int .i64 z] w fun e w' => e = .returned (.bool true) ∧ Below w.heap.size w w' := by
  have hln := stepsF_len h
  have HF := Lib.hid (fun k (hk : k < l.length) => stepsF_get h hk)
  have HLN := Lib.hid hln
  have HZ := Lib.hid (int_i64 hz)
  clear h hln hz
  by_cases hbig : 100 < n
  · have hd : decide (100 < (n : Int)) = true := decide_eq_true (by omega)
    clear hbig
    go_enter Try.func3, Try.ntmps3
    go_wp2_with fail
    refine (ftwakes_any w).mono ?_
    rintro x9 w99 ⟨rfl, hb9⟩
    go_wp2_with fail
    go_ret
    exact ⟨rfl, (Below.refl w.heap.size w).trans (hb9.mono (Below.refl w.heap.size w).size)⟩
  have hd : decide (100 < (n : Int)) = false := decide_eq_false (by omega)
  have HS := St.nil w noF
  go_enter Try.func3, Try.ntmps3
  go_upto_region 3 with fail
  clear hd
  go_upto_region 4 with (first | ((with_reducible refine wpList_plain ?_ ?_); exact rfl; intro KK hKK; refine wp_st_box HS 27 (.tmp 12) rfl _ rfl (#[.slice none 0 0]) (rfl) (fun g1 W1 HSx => hKK _ _ ?_); clear hKK KK HS; have HS : St w noF [⟨g1, 27, #[.slice none 0 0]⟩] W1 := HSx; clear HSx) | ((with_reducible refine wpList_plain ?_ ?_); exact rfl; intro KK hKK; refine wp_st_box HS 30 (.tmp 14) rfl _ rfl (#[.slice none 0 0]) (rfl) (fun g2 W2 HSx => hKK _ _ ?_); clear hKK KK HS; have HS : St w noF [⟨g1, 27, #[.slice none 0 0]⟩, ⟨g2, 30, #[.slice none 0 0]⟩] W2 := HSx; clear HSx))
  have HBT0 : Hid (Both w g1 g2 [] [] W2) := Lib.hid ⟨⟨none, 0, 0, HS.row 0 rfl, none, 0, rfl, Nat.le_refl _, fun _ => rfl, by decide, fun h => absurd rfl h⟩, ⟨none, 0, 0, HS.row 1 rfl, none, 0, rfl, Nat.le_refl _, fun _ => rfl, by decide, fun h => absurd rfl h⟩, HS.below, HS.apart 0 1 _ _ (by decide) rfl rfl, (HS.own 0 _ rfl).resolve_left (fun h => h), (HS.own 1 _ rfl).resolve_left (fun h => h)⟩
  clear HS
  go_wp2_with fail
  go_loopw [7] (fun i wr => ∃ (k : Nat) (M : List Int), k ≤ n ∧ i = .int .i64 k ∧ M.length ≤ 64 ∧ Both w g1 g2 M M wr) (fun i _ => n - (intOf i).toNat)
  case atStart => exact ⟨0, [], by omega, rfl, by decide, HBT0.out⟩
  case round =>
    obtain ⟨k, M, hk, rfl, hml, hbt⟩ := hrel
    have HBT := Lib.hid hbt
    have HML := Lib.hid hml
    clear hbt hml
    by_cases hlt : k < n
    · obtain ⟨b, o, t, L, B, m, c1, hx, rfl, hb, hct, hcl, hi⟩ := HF.out k (by rw [HLN.out]; exact hlt)
      obtain ⟨O, hO⟩ : ∃ O, o + k * 2 = O := ⟨_, rfl⟩
      rw [hO] at hct hcl
      have HBW := Lib.hid hb
      have HCL := Lib.hid hcl
      have HI := Lib.hid hi
      have HO := Lib.hid hO
      have hk0 : (0 : Int) ≤ (k : Int) := by omega
      have hk1 : (k : Int) < (n : Int) := by omega
      have HK0 := Lib.hid hk0
      have HK1 := Lib.hid hk1
      have ct : wr.cell? ⟨b, O, none⟩ = some (.bool t) := (HBT.out.2.2.1.cell (p := ⟨b, O, none⟩) hb).trans hct
      have cl : wr.cell? ⟨b, O + 1, none⟩ = some (.slice B m c1) := (HBT.out.2.2.1.cell (p := ⟨b, O + 1, none⟩) hb).trans hcl
      clear hx hb hct hcl hi
      by_cases hm1 : 100 < m
      · have hd : decide (100 < (m : Int)) = true := decide_eq_true (by omega)
        have HBB := Lib.hid HBT.out.2.2.1
        clear hm1
        go_wp2_with fail
        refine (ftwakes_any _).mono ?_
        rintro x9 w99 ⟨rfl, hb9⟩
        go_wp2_with fail
        go_ret
        exact ⟨rfl, HBB.out.trans (hb9.mono HBB.out.size)⟩
      have hd : decide (100 < (m : Int)) = false := decide_eq_false (by omega)
      have HM1 : Hid (m ≤ 100) := Lib.hid (by omega)
      clear hm1
      cases t with
      | true =>
        have CT := take_any g1 M wr HBT.out.1
        obtain ⟨b0, b1, b2, b3, hh⟩ := head_form M
        rw [hh] at CT
        have HH := Lib.hid hh
        go_upto_region 10 with fail
        clear ct cl hd hO hk0 hk1 hh
        go_wp2_with fail
        refine CT.mono ?_
        rintro e w3 ⟨rfl, hf, hch⟩
        have HB3 := Lib.hid (HBT.out.left hf hch)
        clear CT hf hch HBT
        go_wp2_with fail
        refine (own_fat b0 b1 b2 b3 w3).mono ?_
        rintro e w4 ⟨rfl, hb⟩
        have HB4 := Lib.hid (HB3.out.call hb)
        have CR := rtake_any g2 M w4 HB4.out.2.1 (by have := HML.out; omega)
        rw [HH.out] at CR
        clear hb HB3
        have qr := fun w => eql_rfat b0 b1 b2 b3 b0 b1 b2 b3 w
        simp only [beq_self_eq_true, Bool.and_self] at qr
        go_wp2_with fail
        refine CR.mono ?_
        rintro e w5 ⟨rfl, hf, hch⟩
        have HBT := Lib.hid (HB4.out.right hf hch)
        clear CR hf hch HB4
        have HML8 : Hid (M.tail.length ≤ 64) := Lib.hid (by have := HML.out; rw [List.length_tail]; omega)
        go_upto_region 11 with fail
        clear qr
        go_upto_region 14 with fail
        obtain ⟨A8, n8, c8, hr8, hi8⟩ := HBT.out.2.1
        have HN8 : Hid ((M.tail).length = n8) := Lib.hid (ints_len hi8)
        have hF0 : Wl [(fun W => Both w g1 g2 M.tail M.tail W ∧ Row W g2 30 #[.slice A8 n8 c8] ∧ IntsAt W (.slice A8 n8 c8) M.tail)] 0 (World.drew _) := ⟨HBT.out.call (Below.refl _ _).drew, hr8.call (Below.refl _ _).drew, hi8.below (Below.refl _ _).drew (Nat.le_refl _)⟩
        clear HBT hr8 hi8
        refine wp_region_phs [is (.pointer (some ⟨g1, 0, none⟩)), (fun v W => ∃ A3 c3, v = Value.slice A3 n8 c3 ∧ IntsAt W v M.tail), is (.pointer (some ⟨g2, 0, none⟩)), is (.pointer (some ⟨g2, 0, none⟩)), is (.pointer (some ⟨g2, 0, none⟩)), is (.slice A8 n8 c8), is (.bool true), is (.bool false)] [true, false, true, true, true, true, true, true] [(fun W => Both w g1 g2 M.tail M.tail W ∧ Row W g2 30 #[.slice A8 n8 c8] ∧ IntsAt W (.slice A8 n8 c8) M.tail)] [false, false, false, false, false, false, false, false] [some 0, some 0, some 0, some 0, some 0, some 0, some 0, some 0] [some 58, some 59, some 60, some 61, some 62, some 63, some 64, some 65] 8 0 (fun _ => true) rfl rfl (by kernel_rfl) (by kernel_rfl) (by kernel_rfl) (by kernel_rfl) ?_ ?_ ?_ ?_ ?_ ?_
        · repeat first | exact wok_nil | refine wok_cons (by first | exact fun _ _ h k => ⟨h.1.call k, h.2.1.call k, h.2.2.below k (Nat.le_refl _)⟩) ?_
        · repeat first | exact vok_nil | refine vok_rig (by first | exact fun _ _ _ h => h) ?_ | refine vok_soft (by first | exact fun _ _ _ h _ => h | exact fun _ _ _ h k => ⟨h.choose, h.choose_spec.choose, h.choose_spec.choose_spec.1, h.choose_spec.choose_spec.2.below k (Nat.le_refl _)⟩) ?_
        · exact hF0
        · repeat first | exact all_end (by decide) | refine all_cons (by first | exact rfl | exact ⟨rfl, fun _ _ h => Or.inl h⟩ | exact ⟨rfl, fun _ _ h => Or.inr ⟨h, rfl⟩⟩) ?_
        · refine allp_mild 0 rfl rfl rfl (fun a x_ W hout hin hP => ?_) ?_
          · have e5 : a.tmps[5]? = some (.pointer (some ⟨g1, 0, none⟩)) := (hout 5 (by kernel_rfl)).trans rfl
            exact does_move rfl e5 ⟨Same.refl _, rfl⟩
          refine allp_mild 0 rfl rfl rfl (fun a x_ W hout hin hP => ?_) ?_
          · have e58 := hin.is 0 58 (by kernel_rfl) (by decide) (by kernel_rfl) (by kernel_rfl) _ rfl
            have C := all_any g1 M.tail W hP.1.1 (by have := HML8.out; omega)
            have hbd := ints_bd hP.2.2
            have hl8 := ints_len hP.2.2
            clear hP
            clear hin hout
            intro K Q hK
            go_simp
            refine C.mono ?_
            rintro e W' ⟨v9, rfl, ho, hb⟩
            obtain ⟨A9, c9, rfl, _⟩ := own_slice_form ho
            rw [hl8] at ho
            exact hK _ _ ⟨hb, A9, c9, by rw [hl8], ints_own (by rw [hl8]; exact ho) hbd⟩
          refine allp_mild 0 rfl rfl rfl (fun a x_ W hout hin hP => ?_) ?_
          · have e6 : a.tmps[6]? = some (.pointer (some ⟨g2, 0, none⟩)) := (hout 6 (by kernel_rfl)).trans rfl
            exact does_move rfl e6 ⟨Same.refl _, rfl⟩
          refine allp_mild 0 rfl rfl rfl (fun a x_ W hout hin hP => ?_) ?_
          · have e60 := hin.is 2 60 (by kernel_rfl) (by decide) (by kernel_rfl) (by kernel_rfl) _ rfl
            clear hin hout
            intro K Q hK
            go_simp
            exact hK _ _ ⟨Same.refl _, rfl⟩
          refine allp_mild 0 rfl rfl rfl (fun a x_ W hout hin hP => ?_) ?_
          · have e61 := hin.is 3 61 (by kernel_rfl) (by decide) (by kernel_rfl) (by kernel_rfl) _ rfl
            clear hin hout
            intro K Q hK
            go_simp
            exact hK _ _ ⟨Same.refl _, rfl⟩
          refine allp_mild 0 rfl rfl rfl (fun a x_ W hout hin hP => ?_) ?_
          · have e62 := hin.is 4 62 (by kernel_rfl) (by decide) (by kernel_rfl) (by kernel_rfl) _ rfl
            have hc : W.cell? ⟨g2, 0, none⟩ = some (.slice A8 n8 c8) := hP.2.1.get rfl
            clear hP
            clear hin hout
            intro K Q hK
            go_simp
            exact hK _ _ ⟨Same.refl _, rfl⟩
          refine allp_mild 0 rfl rfl rfl (fun a x_ W hout hin hP => ?_) ?_
          · obtain ⟨v59, e59, hv59⟩ := hin.get 1 59 (by kernel_rfl) (by decide) (by kernel_rfl) (.inr ⟨rfl, by kernel_rfl⟩)
            have e63 := hin.is 5 63 (by kernel_rfl) (by decide) (by kernel_rfl) (by kernel_rfl) _ rfl
            obtain ⟨A9, c9, rfl, hI9⟩ := hv59
            have C := keepints_any M.tail M.tail A9 A8 n8 n8 c9 c8 W hI9 hP.2.2 (by have := HML8.out; have := HN8.out; omega)
            rw [decide_eq_true rfl] at C
            clear hP hI9
            clear hin hout
            intro K Q hK
            go_simp
            refine C.mono ?_
            rintro e W' ⟨rfl, hb⟩
            exact hK _ _ ⟨hb, rfl⟩
          refine allp_mild 0 rfl rfl rfl (fun a x_ W hout hin hP => ?_) ?_
          · have e64 := hin.is 6 64 (by kernel_rfl) (by decide) (by kernel_rfl) (by kernel_rfl) _ rfl
            exact does_not rfl e64 ⟨Same.refl _, rfl⟩
          exact all_end (by decide)
        · intro x_ W hP hV
          have hx : x_ 7 = .bool false := hV 7 (by decide) (.inl (by kernel_rfl))
          have HP8 := Lib.hid hP.1
          clear hP hV
          simp only [putL, Act.put, List.setIfInBounds_toArray, List.set_cons_succ, List.set_cons_zero, hx]
          simp only [Nat.zero_add, Nat.reduceAdd]
          refine wpAnyH_done (by kernel_rfl) ?_ _
          clear hx
          go_wp2_with fail
          exact ⟨⟨k + 1, M.tail, by omega, by go_num, HML8.out, HP8.out⟩, by simp [intOf]; omega⟩
      | false =>
        go_upto_region 12 with fail
        clear ct cl hd hO hk0 hk1
        obtain ⟨B0, hB0⟩ : ∃ B0, wr.heap.size = B0 := ⟨_, rfl⟩
        have hF0 : Wl [(fun W => Both w g1 g2 M M W ∧ B0 ≤ W.heap.size), (fun W => Both w g1 g2 (addL M L) M W ∧ B0 ≤ W.heap.size), (fun W => Both w g1 g2 (addL M L) (addL M L) W ∧ B0 ≤ W.heap.size)] 0 (World.drew _) := ⟨HBT.out.call (Below.refl _ _).drew, by rw [← hB0]; exact (Below.refl 0 _).drew.size⟩
        clear HBT hB0
        refine wp_region_phs [is (.pointer (some ⟨g1, 0, none⟩)), (fun v W => ∃ g, v = Value.slice (some ⟨g, 0, none⟩) 0 0 ∧ W.ownsRow B0 3 1 v 0 []), is (.slice (some ⟨b, o, none⟩) n c), is (.int .i64 (k : Int)), is (.pointer (some ⟨b, O, none⟩)), is (.pointer (some ⟨b, O + 1, none⟩)), is (.slice B m c1), (fun v W => ∃ A3 c3, v = Value.slice A3 m c3 ∧ IntsAt W v L), is (.int .i64 (addE M L)), is (.pointer (some ⟨g2, 0, none⟩)), is (.slice (some ⟨b, o, none⟩) n c), is (.int .i64 (k : Int)), is (.pointer (some ⟨b, O, none⟩)), is (.pointer (some ⟨b, O + 1, none⟩)), is (.slice B m c1), is (.int .i64 (addE M L)), is (.bool false)] [true, false, true, true, true, true, true, false, true, true, true, true, true, true, true, true, true] [(fun W => Both w g1 g2 M M W ∧ B0 ≤ W.heap.size), (fun W => Both w g1 g2 (addL M L) M W ∧ B0 ≤ W.heap.size), (fun W => Both w g1 g2 (addL M L) (addL M L) W ∧ B0 ≤ W.heap.size)] [false, false, false, false, false, false, false, false, true, false, false, false, false, false, false, true, false] [some 0, some 0, some 0, some 0, some 0, some 0, some 0, some 0, some 0, none, none, none, none, none, none, some 1, some 2] [some 41, some 42, some 43, some 44, some 45, some 46, some 47, some 48, some 49, some 50, some 51, some 52, some 53, some 54, some 55, some 56, some 57] 17 2 (fun _ => true) rfl rfl (by kernel_rfl) (by kernel_rfl) (by kernel_rfl) (by kernel_rfl) ?_ ?_ ?_ ?_ ?_ ?_
        · repeat first | exact wok_nil | refine wok_cons (by first | exact fun _ _ h k => ⟨h.1.call k, Nat.le_trans h.2 k.size⟩) ?_
        · repeat first | exact vok_nil | refine vok_rig (by first | exact fun _ _ _ h => h) ?_ | refine vok_soft (by first | exact fun _ _ _ h _ => h | exact fun _ _ _ h k => ⟨h.choose, h.choose_spec.1, owns_call h.choose_spec.2 k⟩ | exact fun _ _ _ h k => ⟨h.choose, h.choose_spec.choose, h.choose_spec.choose_spec.1, h.choose_spec.choose_spec.2.below k (Nat.le_refl _)⟩) ?_
        · exact hF0
        · repeat first | exact all_end (by decide) | refine all_cons (by first | exact rfl | exact ⟨rfl, fun _ _ h => Or.inl h⟩ | exact ⟨rfl, fun _ _ h => Or.inr ⟨h, rfl⟩⟩) ?_
        · refine allp_mild 0 rfl rfl rfl (fun a x_ W hout hin hP => ?_) ?_
          · have e5 : a.tmps[5]? = some (.pointer (some ⟨g1, 0, none⟩)) := (hout 5 (by kernel_rfl)).trans rfl
            exact does_move rfl e5 ⟨Same.refl _, rfl⟩
          refine allp_mild 0 rfl rfl rfl (fun a x_ W hout hin hP => ?_) ?_
          · have hbse := hP.2
            clear hP
            clear hin hout
            intro K Q hK
            go_simp
            exact hK _ _ ⟨Same.alloc _ _, _, rfl, own_base (ints_e W) hbse⟩
          refine allp_mild 0 rfl rfl rfl (fun a x_ W hout hin hP => ?_) ?_
          · have e0 : a.tmps[0]? = some (.slice (some ⟨b, o, none⟩) n c) := (hout 0 (by kernel_rfl)).trans rfl
            exact does_move rfl e0 ⟨Same.refl _, rfl⟩
          refine allp_mild 0 rfl rfl rfl (fun a x_ W hout hin hP => ?_) ?_
          · have e7 : a.tmps[7]? = some (.int .i64 (k : Int)) := (hout 7 (by kernel_rfl)).trans rfl
            exact does_move rfl e7 ⟨Same.refl _, rfl⟩
          refine allp_mild 0 rfl rfl rfl (fun a x_ W hout hin hP => ?_) ?_
          · have e43 := hin.is 2 43 (by kernel_rfl) (by decide) (by kernel_rfl) (by kernel_rfl) _ rfl
            have e44 := hin.is 3 44 (by kernel_rfl) (by decide) (by kernel_rfl) (by kernel_rfl) _ rfl
            have hO := HO.out
            have k0 := HK0.out
            have k1 := HK1.out
            clear hin hout
            intro K Q hK
            go_simp
            exact hK _ _ ⟨Same.refl _, rfl⟩
          refine allp_mild 0 rfl rfl rfl (fun a x_ W hout hin hP => ?_) ?_
          · have e45 := hin.is 4 45 (by kernel_rfl) (by decide) (by kernel_rfl) (by kernel_rfl) _ rfl
            clear hin hout
            intro K Q hK
            go_simp
            exact hK _ _ ⟨Same.refl _, rfl⟩
          refine allp_mild 0 rfl rfl rfl (fun a x_ W hout hin hP => ?_) ?_
          · have e46 := hin.is 5 46 (by kernel_rfl) (by decide) (by kernel_rfl) (by kernel_rfl) _ rfl
            have hc : W.cell? ⟨b, O + 1, none⟩ = some (.slice B m c1) := (hP.1.2.2.1.cell (p := ⟨b, O + 1, none⟩) HBW.out).trans HCL.out
            clear hP
            clear hin hout
            intro K Q hK
            go_simp
            exact hK _ _ ⟨Same.refl _, rfl⟩
          refine allp_mild 0 rfl rfl rfl (fun a x_ W hout hin hP => ?_) ?_
          · obtain ⟨v42, e42, hv42⟩ := hin.get 1 42 (by kernel_rfl) (by decide) (by kernel_rfl) (.inr ⟨rfl, by kernel_rfl⟩)
            have e47 := hin.is 6 47 (by kernel_rfl) (by decide) (by kernel_rfl) (by kernel_rfl) _ rfl
            have hbse := hP.2
            have hI := HI.out.below hP.1.2.2.1 (Nat.le_refl _)
            obtain ⟨ge, rfl, hoe⟩ := hv42
            clear hin hout hP
            intro K Q hK
            refine wp_append_emptyI (.tmp 42) (.tmp 47) rfl B0 ge (eval_of_get e42) hoe B m c1 L (eval_of_get e47) hI (by have := HM1.out; omega) hbse (fun v9 w9 own9 hb9 => ?_)
            obtain ⟨A9, c9, rfl, _⟩ := own_slice_form own9
            exact hK _ _ ⟨hb9, A9, c9, rfl, ints_own own9 (ints_bd hI)⟩
          refine allp_wild 0 rfl rfl rfl (fun a x_ W hout hin hP => ?_) ?_
          · have e41 := hin.is 0 41 (by kernel_rfl) (by decide) (by kernel_rfl) (by kernel_rfl) _ rfl
            obtain ⟨v48, e48, hv48⟩ := hin.get 7 48 (by kernel_rfl) (by decide) (by kernel_rfl) (.inr ⟨rfl, by kernel_rfl⟩)
            obtain ⟨A9, c9, rfl, hI9⟩ := hv48
            have C := add_any g1 M A9 m c9 L W hP.1.1 hI9 (by have := HM1.out; omega) HML.out
            have hPP := hP
            clear hP
            clear hin hout
            intro K Q hK
            go_simp
            refine C.mono ?_
            rintro e W' ⟨rfl, hf, hch⟩
            exact hK _ _ ⟨⟨hPP.1.left hf hch, Nat.le_trans hPP.2 hch.size⟩, rfl⟩
          refine allp_pure rfl rfl (fun a x_ W hout hin => ?_) ?_
          · have e6 : a.tmps[6]? = some (.pointer (some ⟨g2, 0, none⟩)) := (hout 6 (by kernel_rfl)).trans rfl
            exact does_move rfl e6 ⟨rfl, rfl⟩
          refine allp_pure rfl rfl (fun a x_ W hout hin => ?_) ?_
          · have e0 : a.tmps[0]? = some (.slice (some ⟨b, o, none⟩) n c) := (hout 0 (by kernel_rfl)).trans rfl
            exact does_move rfl e0 ⟨rfl, rfl⟩
          refine allp_pure rfl rfl (fun a x_ W hout hin => ?_) ?_
          · have e7 : a.tmps[7]? = some (.int .i64 (k : Int)) := (hout 7 (by kernel_rfl)).trans rfl
            exact does_move rfl e7 ⟨rfl, rfl⟩
          refine allp_pure rfl rfl (fun a x_ W hout hin => ?_) ?_
          · have e51 := hin.is 10 51 (by kernel_rfl) (by decide) (by kernel_rfl) (by kernel_rfl) _ rfl
            have e52 := hin.is 11 52 (by kernel_rfl) (by decide) (by kernel_rfl) (by kernel_rfl) _ rfl
            have hO := HO.out
            have k0 := HK0.out
            have k1 := HK1.out
            clear hin hout
            intro K Q hK
            go_simp
            exact hK _ _ ⟨rfl, rfl⟩
          refine allp_pure rfl rfl (fun a x_ W hout hin => ?_) ?_
          · have e53 := hin.is 12 53 (by kernel_rfl) (by decide) (by kernel_rfl) (by kernel_rfl) _ rfl
            clear hin hout
            intro K Q hK
            go_simp
            exact hK _ _ ⟨rfl, rfl⟩
          refine allp_any rfl rfl (fun a x_ W hout hin hP => ?_) ?_
          · have e54 := hin.is 13 54 (by kernel_rfl) (by decide) (by kernel_rfl) (by kernel_rfl) _ rfl
            have hbw : Below w.heap.size w W := wl_any (S := fun W => Below w.heap.size w W) (fun F hF W9 hFW => by simp only [List.mem_cons, List.not_mem_nil, or_false] at hF; rcases hF with rfl | rfl | rfl <;> exact hFW.1.2.2.1) hP
            have hc : W.cell? ⟨b, O + 1, none⟩ = some (.slice B m c1) := (hbw.cell (p := ⟨b, O + 1, none⟩) HBW.out).trans HCL.out
            clear hP hbw
            clear hin hout
            intro K Q hK
            go_simp
            exact hK _ _ ⟨rfl, rfl⟩
          refine allp_wild 1 rfl rfl rfl (fun a x_ W hout hin hP => ?_) ?_
          · have e50 := hin.is 9 50 (by kernel_rfl) (by decide) (by kernel_rfl) (by kernel_rfl) _ rfl
            have e55 := hin.is 14 55 (by kernel_rfl) (by decide) (by kernel_rfl) (by kernel_rfl) _ rfl
            have C := radd_any g2 M B m c1 L W hP.1.2.1 (HI.out.below hP.1.2.2.1 (Nat.le_refl _)) (by have := HM1.out; omega) HML.out
            have hPP := hP
            clear hP
            clear hin hout
            intro K Q hK
            go_simp
            refine C.mono ?_
            rintro e W' ⟨rfl, hf, hch⟩
            exact hK _ _ ⟨⟨hPP.1.right hf hch, Nat.le_trans hPP.2 hch.size⟩, rfl⟩
          refine allp_mild 2 rfl rfl rfl (fun a x_ W hout hin hP => ?_) ?_
          · have e49 := hin.is 8 49 (by kernel_rfl) (by decide) (by kernel_rfl) (by kernel_rfl) _ rfl
            have e56 := hin.is 15 56 (by kernel_rfl) (by decide) (by kernel_rfl) (by kernel_rfl) _ rfl
            clear hP
            clear hin hout
            intro K Q hK
            go_simp
            exact hK _ _ ⟨Same.refl _, rfl⟩
          exact all_end (by decide)
        · intro x_ W hP hV
          have hx : x_ 16 = .bool false := hV 16 (by decide) (.inl (by kernel_rfl))
          have HBT := Lib.hid hP.1
          clear hP hV
          simp only [putL, Act.put, List.setIfInBounds_toArray, List.set_cons_succ, List.set_cons_zero, hx]
          simp only [Nat.zero_add, Nat.reduceAdd]
          refine wpAnyH_done (by kernel_rfl) ?_ _
          clear hx
          have HML8 : Hid ((addL M L).length ≤ 64) := Lib.hid (addL_len HML.out)
          go_upto_region 14 with fail
          obtain ⟨A8, n8, c8, hr8, hi8⟩ := HBT.out.2.1
          have HN8 : Hid (((addL M L)).length = n8) := Lib.hid (ints_len hi8)
          have hF0 : Wl [(fun W => Both w g1 g2 (addL M L) (addL M L) W ∧ Row W g2 30 #[.slice A8 n8 c8] ∧ IntsAt W (.slice A8 n8 c8) (addL M L))] 0 (World.drew _) := ⟨HBT.out.call (Below.refl _ _).drew, hr8.call (Below.refl _ _).drew, hi8.below (Below.refl _ _).drew (Nat.le_refl _)⟩
          clear HBT hr8 hi8
          refine wp_region_phs [is (.pointer (some ⟨g1, 0, none⟩)), (fun v W => ∃ A3 c3, v = Value.slice A3 n8 c3 ∧ IntsAt W v (addL M L)), is (.pointer (some ⟨g2, 0, none⟩)), is (.pointer (some ⟨g2, 0, none⟩)), is (.pointer (some ⟨g2, 0, none⟩)), is (.slice A8 n8 c8), is (.bool true), is (.bool false)] [true, false, true, true, true, true, true, true] [(fun W => Both w g1 g2 (addL M L) (addL M L) W ∧ Row W g2 30 #[.slice A8 n8 c8] ∧ IntsAt W (.slice A8 n8 c8) (addL M L))] [false, false, false, false, false, false, false, false] [some 0, some 0, some 0, some 0, some 0, some 0, some 0, some 0] [some 58, some 59, some 60, some 61, some 62, some 63, some 64, some 65] 8 0 (fun _ => true) rfl rfl (by kernel_rfl) (by kernel_rfl) (by kernel_rfl) (by kernel_rfl) ?_ ?_ ?_ ?_ ?_ ?_
          · repeat first | exact wok_nil | refine wok_cons (by first | exact fun _ _ h k => ⟨h.1.call k, h.2.1.call k, h.2.2.below k (Nat.le_refl _)⟩) ?_
          · repeat first | exact vok_nil | refine vok_rig (by first | exact fun _ _ _ h => h) ?_ | refine vok_soft (by first | exact fun _ _ _ h _ => h | exact fun _ _ _ h k => ⟨h.choose, h.choose_spec.choose, h.choose_spec.choose_spec.1, h.choose_spec.choose_spec.2.below k (Nat.le_refl _)⟩) ?_
          · exact hF0
          · repeat first | exact all_end (by decide) | refine all_cons (by first | exact rfl | exact ⟨rfl, fun _ _ h => Or.inl h⟩ | exact ⟨rfl, fun _ _ h => Or.inr ⟨h, rfl⟩⟩) ?_
          · refine allp_mild 0 rfl rfl rfl (fun a x_ W hout hin hP => ?_) ?_
            · have e5 : a.tmps[5]? = some (.pointer (some ⟨g1, 0, none⟩)) := (hout 5 (by kernel_rfl)).trans rfl
              exact does_move rfl e5 ⟨Same.refl _, rfl⟩
            refine allp_mild 0 rfl rfl rfl (fun a x_ W hout hin hP => ?_) ?_
            · have e58 := hin.is 0 58 (by kernel_rfl) (by decide) (by kernel_rfl) (by kernel_rfl) _ rfl
              have C := all_any g1 (addL M L) W hP.1.1 (by have := HML8.out; omega)
              have hbd := ints_bd hP.2.2
              have hl8 := ints_len hP.2.2
              clear hP
              clear hin hout
              intro K Q hK
              go_simp
              refine C.mono ?_
              rintro e W' ⟨v9, rfl, ho, hb⟩
              obtain ⟨A9, c9, rfl, _⟩ := own_slice_form ho
              rw [hl8] at ho
              exact hK _ _ ⟨hb, A9, c9, by rw [hl8], ints_own (by rw [hl8]; exact ho) hbd⟩
            refine allp_mild 0 rfl rfl rfl (fun a x_ W hout hin hP => ?_) ?_
            · have e6 : a.tmps[6]? = some (.pointer (some ⟨g2, 0, none⟩)) := (hout 6 (by kernel_rfl)).trans rfl
              exact does_move rfl e6 ⟨Same.refl _, rfl⟩
            refine allp_mild 0 rfl rfl rfl (fun a x_ W hout hin hP => ?_) ?_
            · have e60 := hin.is 2 60 (by kernel_rfl) (by decide) (by kernel_rfl) (by kernel_rfl) _ rfl
              clear hin hout
              intro K Q hK
              go_simp
              exact hK _ _ ⟨Same.refl _, rfl⟩
            refine allp_mild 0 rfl rfl rfl (fun a x_ W hout hin hP => ?_) ?_
            · have e61 := hin.is 3 61 (by kernel_rfl) (by decide) (by kernel_rfl) (by kernel_rfl) _ rfl
              clear hin hout
              intro K Q hK
              go_simp
              exact hK _ _ ⟨Same.refl _, rfl⟩
            refine allp_mild 0 rfl rfl rfl (fun a x_ W hout hin hP => ?_) ?_
            · have e62 := hin.is 4 62 (by kernel_rfl) (by decide) (by kernel_rfl) (by kernel_rfl) _ rfl
              have hc : W.cell? ⟨g2, 0, none⟩ = some (.slice A8 n8 c8) := hP.2.1.get rfl
              clear hP
              clear hin hout
              intro K Q hK
              go_simp
              exact hK _ _ ⟨Same.refl _, rfl⟩
            refine allp_mild 0 rfl rfl rfl (fun a x_ W hout hin hP => ?_) ?_
            · obtain ⟨v59, e59, hv59⟩ := hin.get 1 59 (by kernel_rfl) (by decide) (by kernel_rfl) (.inr ⟨rfl, by kernel_rfl⟩)
              have e63 := hin.is 5 63 (by kernel_rfl) (by decide) (by kernel_rfl) (by kernel_rfl) _ rfl
              obtain ⟨A9, c9, rfl, hI9⟩ := hv59
              have C := keepints_any (addL M L) (addL M L) A9 A8 n8 n8 c9 c8 W hI9 hP.2.2 (by have := HML8.out; have := HN8.out; omega)
              rw [decide_eq_true rfl] at C
              clear hP hI9
              clear hin hout
              intro K Q hK
              go_simp
              refine C.mono ?_
              rintro e W' ⟨rfl, hb⟩
              exact hK _ _ ⟨hb, rfl⟩
            refine allp_mild 0 rfl rfl rfl (fun a x_ W hout hin hP => ?_) ?_
            · have e64 := hin.is 6 64 (by kernel_rfl) (by decide) (by kernel_rfl) (by kernel_rfl) _ rfl
              exact does_not rfl e64 ⟨Same.refl _, rfl⟩
            exact all_end (by decide)
          · intro x_ W hP hV
            have hx : x_ 7 = .bool false := hV 7 (by decide) (.inl (by kernel_rfl))
            have HP8 := Lib.hid hP.1
            clear hP hV
            simp only [putL, Act.put, List.setIfInBounds_toArray, List.set_cons_succ, List.set_cons_zero, hx]
            simp only [Nat.zero_add, Nat.reduceAdd]
            refine wpAnyH_done (by kernel_rfl) ?_ _
            clear hx
            go_wp2_with fail
            exact ⟨⟨k + 1, (addL M L), by omega, by go_num, HML8.out, HP8.out⟩, by simp [intOf]; omega⟩
    · obtain rfl : k = n := by omega
      have CO := of_any z wr
      obtain ⟨b0, b1, b2, b3, hh⟩ := fat_form z
      rw [hh] at CO
      have HH := Lib.hid hh
      have HB1 := Lib.hid HBT.out.2.2.1
      clear hh HBT
      go_upto_region 16 with fail
      go_wp2_with fail
      refine CO.mono ?_
      rintro e w3 ⟨rfl, hb⟩
      have HB3 := Lib.hid (HB1.out.trans (hb.mono HB1.out.size))
      clear CO hb
      go_wp2_with fail
      refine (own_fat b0 b1 b2 b3 w3).mono ?_
      rintro e w4 ⟨rfl, hb⟩
      have HB4 := Lib.hid (HB3.out.trans (hb.mono HB3.out.size))
      have CR := rof_any z w4 HZ.out.2
      rw [HH.out] at CR
      clear hb
      go_wp2_with fail
      refine CR.mono ?_
      rintro e w5 ⟨rfl, hb⟩
      have HB5 := Lib.hid (HB4.out.trans (hb.mono HB4.out.size))
      clear CR hb
      have qr := fun w => eql_rfat b0 b1 b2 b3 b0 b1 b2 b3 w
      simp only [beq_self_eq_true, Bool.and_self] at qr
      go_wp2_with fail
      refine (ftwakes_any w5).mono ?_
      rintro x9 w99 ⟨rfl, hb9⟩
      go_wp2_with fail
      go_ret
      exact ⟨rfl, HB5.out.trans (hb9.mono HB5.out.size)⟩
end Go.Proofs.Ytlncdokeecmnjaa
