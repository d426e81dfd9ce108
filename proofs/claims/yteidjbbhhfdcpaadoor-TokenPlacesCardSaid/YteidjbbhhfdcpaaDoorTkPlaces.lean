/- The statement TokenPlaces: its walk. -/
import Derived.Test.YteidjbbhhfdcpaaDoorTokWakes
set_option maxRecDepth 4000
namespace Go.Proofs.YteidjbbhhfdcpaaDoor
open Go Go.RowKit
attribute [local go_sem] strB_size
theorem le_get (v : BitVec 32) (k : Nat) (h : k < 4) : (le v 4).getD k 0#8 = (v >>> (8 * k)).setWidth 8 := by
  unfold le
  rw [List.getD_eq_getElem?_getD, List.getElem?_map, List.getElem?_range h]; rfl
theorem pad_get (n : List (BitVec 8)) (k : Nat) (h : k < 4) : (padN n).getD k 0#8 = n.getD k 0#8 := by
  unfold padN zer
  rw [List.getD_eq_getElem?_getD, List.getD_eq_getElem?_getD, List.getElem?_take_of_lt h]
  by_cases hk : k < n.length
  · rw [List.getElem?_append_left hk]
  · rw [List.getElem?_append_right (by omega), List.getElem?_eq_none (show n.length ≤ k by omega)]
    rw [List.getElem?_replicate]; split <;> rfl
theorem tok_gets (c : Clm) (t : List (BitVec 8)) (k : Nat) (h : k < 4) : (clmB c ++ t).getD (1 + k) 0#8 = c.n.getD k 0#8 ∧ (clmB c ++ t).getD (6 + k) 0#8 = (c.u >>> (8 * k)).setWidth 8 ∧ (clmB c ++ t).getD (10 + k) 0#8 = (c.g >>> (8 * k)).setWidth 8 := by
  obtain ⟨_, h2, _, h4, h5, _⟩ := tok_parts c t
  rw [← pad_get c.n k h, ← le_get c.u k h, ← le_get c.g k h]
  have g : ∀ j, (clmB c ++ t).getD (j + k) 0#8 = ((clmB c ++ t).drop j).getD k 0#8 := fun j => by
    rw [List.getD_eq_getElem?_getD, List.getD_eq_getElem?_getD, List.getElem?_drop]
  refine ⟨?_, ?_, ?_⟩
  · rw [g 1, ← h2, List.getD_eq_getElem?_getD, List.getD_eq_getElem?_getD, List.getElem?_take_of_lt h]
  · rw [g 6, h4, List.getD_eq_getElem?_getD, List.getD_eq_getElem?_getD, List.getElem?_append_left (by rw [len_le4]; exact h)]
  · rw [g 10, h5, List.getD_eq_getElem?_getD, List.getD_eq_getElem?_getD, List.getElem?_append_left (by rw [len_le4]; exact h)]
set_option maxRecDepth 20000 in
set_option maxHeartbeats 3200000 in
theorem tkplaces_walk (c : Clm) (tg : List (BitVec 8)) (w : World) (ht : tg.length = 32) (hm : c.n.length ≤ maxLen) :
    Calls Tryd.prog 5 #[.agg (tokCells c tg)] w fun e w' => e = .returned (.bool true) ∧ Below w.heap.size w w' := by
  have HTS := Lib.hid (tok_size c tg ht)
  have HTZ : Hid ((Tryd.prog.info? 28).map (·.size) = some (tokCells c tg).size) := Lib.hid (by rw [HTS.out]; exact size_tok)
  have HTL := Lib.hid ht
  have HM := Lib.hid hm
  obtain ⟨nl, hnl⟩ : ∃ nl, c.n.length = nl := ⟨_, rfl⟩
  have HS := St.nil w noF
  clear hm ht
  by_cases hbig : 100 < nl
  · have hd : decide (100 < (nl : Int)) = true := decide_eq_true (by omega)
    go_enter Tryd.func5, Tryd.ntmps5
    go_upto_region 1 with (first | ((with_reducible refine wpList_plain ?_ ?_); exact rfl; intro KK hKK; refine wp_st_box HS 28 (.tmp 0) rfl _ rfl (tokCells c tg) (rfl) (fun g1 W1 HSx => hKK _ _ ?_); clear hKK KK HS; have HS : St w noF [⟨g1, 28, tokCells c tg⟩] W1 := HSx; clear HSx))
    have c1 : W1.cell? ⟨g1, 1, none⟩ = some (.string (strB c.n)) := (HS.row 0 rfl).get (tok_get _ _ rfl)
    go_wp2_with fail
    refine (tkwakes_any W1).mono ?_
    rintro e w99 ⟨rfl, hb⟩
    go_wp2_with fail
    go_ret
    exact ⟨rfl, HS.below.trans (hb.mono HS.below.size)⟩
  have hd : decide (100 < (nl : Int)) = false := decide_eq_false (by omega)
  cases hc : mayC c with
  | false =>
    have HE := Lib.hid (fun w => tokenc_bad c tg w HM.out hc)
    clear hc
    go_enter Tryd.func5, Tryd.ntmps5
    go_upto_region 1 with (first | ((with_reducible refine wpList_plain ?_ ?_); exact rfl; intro KK hKK; refine wp_st_box HS 28 (.tmp 0) rfl _ rfl (tokCells c tg) (rfl) (fun g1 W1 HSx => hKK _ _ ?_); clear hKK KK HS; have HS : St w noF [⟨g1, 28, tokCells c tg⟩] W1 := HSx; clear HSx))
    have c1 : W1.cell? ⟨g1, 1, none⟩ = some (.string (strB c.n)) := (HS.row 0 rfl).get (tok_get _ _ rfl)
    go_upto_region 3 with fail
    clear c1 hd
    go_wp2_with (first | ((with_reducible refine wpList_plain ?_ ?_); exact rfl; intro KK hKK; refine wp_st_load HS 0 0 28 (.tmp 1) rfl rfl rfl (tokCells c tg) (slab_whole _) _ Tryd.underlying28 rfl (by exact HTZ.out) (hKK _ _ ?_); clear hKK KK))
    refine (HE.out _).mono ?_
    rintro e w1 ⟨rfl, hb⟩
    have HSx := HS.same hb
    clear HS hb HE
    go_wp2_with fail
    refine (tkwakes_any w1).mono ?_
    rintro e w99 ⟨rfl, hb⟩
    go_wp2_with fail
    go_ret
    exact ⟨rfl, HSx.below.trans (hb.mono HSx.below.size)⟩
  | true =>
    have HE := Lib.hid (fun w => tokenc_good c tg w HTL.out HM.out hc)
    obtain ⟨j1, j2, j3, j4, j5⟩ := may_parts hc
    obtain ⟨t0, _, t5, _, _, t14⟩ := tok_parts c tg
    have HGETS := Lib.hid (tok_gets c tg)
    obtain ⟨B, hB⟩ : ∃ B, clmB c ++ tg = B := ⟨_, rfl⟩
    have HBL : Hid (B.length = 46) := Lib.hid (by rw [← hB, List.length_append, length_clmB, HTL.out])
    rw [hB] at HE HGETS t0 t5 t14
    obtain ⟨p, hp⟩ : ∃ p, c.p = p := ⟨_, rfl⟩
    obtain ⟨rr, hr⟩ : ∃ rr, c.r = rr := ⟨_, rfl⟩
    have HCP := Lib.hid hp
    have HCR := Lib.hid hr
    have HP0 : Hid (bd (B.getD 0 0#8) = p) := Lib.hid (by rw [t0, ← hp]; exact bd_byteI j1 (by omega))
    have HR5 : Hid (bd (B.getD 5 0#8) = rr) := Lib.hid (by rw [t5, ← hr]; exact bd_byteI (by omega) (by omega))
    have HWP : Hid (IntKind.i64.wrap p = p) := Lib.hid (i64_id _ (by omega) (by omega))
    have HWR : Hid (IntKind.i64.wrap rr = rr) := Lib.hid (i64_id _ (by omega) (by omega))
    have HT14 := Lib.hid t14
    clear hc hB t0 t5 t14 hp hr j1 j2 j3 j4 j5
    go_enter Tryd.func5, Tryd.ntmps5
    go_upto_region 1 with (first | ((with_reducible refine wpList_plain ?_ ?_); exact rfl; intro KK hKK; refine wp_st_box HS 28 (.tmp 0) rfl _ rfl (tokCells c tg) (rfl) (fun g1 W1 HSx => hKK _ _ ?_); clear hKK KK HS; have HS : St w noF [⟨g1, 28, tokCells c tg⟩] W1 := HSx; clear HSx))
    have c1 : W1.cell? ⟨g1, 1, none⟩ = some (.string (strB c.n)) := (HS.row 0 rfl).get (tok_get _ _ rfl)
    go_upto_region 3 with fail
    clear c1 hd
    go_wp2_with (first | ((with_reducible refine wpList_plain ?_ ?_); exact rfl; intro KK hKK; refine wp_st_load HS 0 0 28 (.tmp 1) rfl rfl rfl (tokCells c tg) (slab_whole _) _ Tryd.underlying28 rfl (by exact HTZ.out) (hKK _ _ ?_); clear hKK KK))
    refine (HE.out _).mono ?_
    rintro e w1 ⟨v1, rfl, ho, hb1⟩
    have HSx := HS.same hb1
    clear HS hb1 HE
    obtain ⟨gb, cb, curb, rfl, _, hrb, hcb, htb⟩ := own_row ho (by rw [HBL.out]; decide)
    have HBA : Hid (BAt w1 gb 0 B) := Lib.hid (slice_at (row_pre (q := B) hrb htb hcb) (by rw [HBL.out]; decide))
    rw [HBL.out] at hcb ⊢
    have HCB : Hid (46 ≤ cb) := Lib.hid hcb
    have HTGS : Hid (∀ W, BAt W gb 0 B → Slice W (.slice (some ⟨gb, 14, none⟩) 32 (cb - 14)) tg) := Lib.hid (fun W h => by
      have h2 := h.drop 14
      rw [HT14.out, Nat.zero_add] at h2
      exact h2.slice HTL.out (by have := HCB.out; omega))
    clear ho hrb hcb htb
    go_upto_region 6 with fail
    have hF0 : Wl [fun W => Below w.heap.size w W ∧ Row W g1 28 (tokCells c tg) ∧ BAt W gb 0 B] 0 w1.drew := ⟨HSx.below.trans ((Below.refl _ _).drew.mono HSx.below.size), (HSx.row 0 rfl).call (Below.refl _ _).drew, HBA.out.call (Below.refl _ _).drew⟩
    clear HSx HBA
    refine wp_region_phs [is (.slice (some ⟨gb, 0, none⟩) 46 cb), is (.pointer (some ⟨gb, 0, none⟩)), is (.int .u8 p), is (.int .i64 p), is (.pointer (some ⟨g1, 0, none⟩)), is (.pointer (some ⟨g1, 0, none⟩)), is (.int .i64 p), is (.bool false), is (.bool false), is (.slice (some ⟨gb, 0, none⟩) 46 cb), is (.pointer (some ⟨gb, 5, none⟩)), is (.int .u8 rr), is (.int .i64 rr), is (.pointer (some ⟨g1, 0, none⟩)), is (.pointer (some ⟨g1, 2, none⟩)), is (.int .i64 rr), is (.bool false), is (.bool false)] [true, true, true, true, true, true, true, true, true, true, true, true, true, true, true, true, true, true] [(fun W => Below w.heap.size w W ∧ Row W g1 28 (tokCells c tg) ∧ BAt W gb 0 B)] [false, false, false, false, false, false, false, false, false, false, false, false, false, false, false, false, false, false] [some 0, some 0, some 0, some 0, some 0, some 0, some 0, some 0, some 0, some 0, some 0, some 0, some 0, some 0, some 0, some 0, some 0, some 0] [some 35, some 36, some 37, some 38, some 39, some 40, some 41, some 42, some 43, some 44, some 45, some 46, some 47, some 48, some 49, some 50, some 51, some 52] 18 0 (fun _ => true) rfl rfl (by kernel_rfl) (by kernel_rfl) (by kernel_rfl) (by kernel_rfl) ?_ ?_ ?_ ?_ ?_ ?_
    · repeat first | exact wok_nil | refine wok_cons (by first | exact fun _ _ h k => ⟨h.1.trans (k.mono h.1.size), h.2.1.call k, h.2.2.call k⟩) ?_
    · repeat first | exact vok_nil | refine vok_rig (by first | exact fun _ _ _ h => h) ?_ | refine vok_soft (by first | exact fun _ _ _ h _ => h) ?_
    · exact hF0
    · repeat first | exact all_end (by decide) | refine all_cons (by first | exact rfl | exact ⟨rfl, fun _ _ h => Or.inl h⟩ | exact ⟨rfl, fun _ _ h => Or.inr ⟨h, rfl⟩⟩) ?_
    · refine allp_mild 0 rfl rfl rfl (fun a x W hout hin hP => ?_) ?_
      · have e3 : a.tmps[3]? = some (.slice (some ⟨gb, 0, none⟩) 46 cb) := (hout 3 (by kernel_rfl)).trans rfl
        exact does_move rfl e3 ⟨Same.refl _, rfl⟩
      refine allp_mild 0 rfl rfl rfl (fun a x W hout hin hP => ?_) ?_
      · have e35 := hin.is 0 35 (by kernel_rfl) (by decide) (by kernel_rfl) (by kernel_rfl) _ rfl
        clear hin hout
        intro K Q hK
        go_simp
        exact hK _ _ ⟨Same.refl _, rfl⟩
      refine allp_mild 0 rfl rfl rfl (fun a x W hout hin hP => ?_) ?_
      · have e36 := hin.is 1 36 (by kernel_rfl) (by decide) (by kernel_rfl) (by kernel_rfl) _ rfl
        have hc : W.cell? ⟨gb, 0, none⟩ = some (.int .u8 p) := by have h := hP.2.2.get 0 (by rw [HBL.out]; decide); rw [Nat.zero_add, HP0.out] at h; exact h
        clear hP
        clear hin hout
        intro K Q hK
        go_simp
        exact hK _ _ ⟨Same.refl _, rfl⟩
      refine allp_mild 0 rfl rfl rfl (fun a x W hout hin hP => ?_) ?_
      · have e37 := hin.is 2 37 (by kernel_rfl) (by decide) (by kernel_rfl) (by kernel_rfl) _ rfl
        have hw := HWP.out
        clear hin hout
        intro K Q hK
        go_simp
        exact hK _ _ ⟨Same.refl _, rfl⟩
      refine allp_mild 0 rfl rfl rfl (fun a x W hout hin hP => ?_) ?_
      · have e1 : a.tmps[1]? = some (.pointer (some ⟨g1, 0, none⟩)) := (hout 1 (by kernel_rfl)).trans rfl
        clear hin hout
        intro K Q hK
        go_simp
        exact hK _ _ ⟨Same.refl _, rfl⟩
      refine allp_mild 0 rfl rfl rfl (fun a x W hout hin hP => ?_) ?_
      · have e39 := hin.is 4 39 (by kernel_rfl) (by decide) (by kernel_rfl) (by kernel_rfl) _ rfl
        clear hin hout
        intro K Q hK
        go_simp
        exact hK _ _ ⟨Same.refl _, rfl⟩
      refine allp_mild 0 rfl rfl rfl (fun a x W hout hin hP => ?_) ?_
      · have e40 := hin.is 5 40 (by kernel_rfl) (by decide) (by kernel_rfl) (by kernel_rfl) _ rfl
        have hc : W.cell? ⟨g1, 0, none⟩ = some (.int .i64 p) := HCP.out ▸ hP.2.1.get (tok_get _ _ rfl)
        clear hP
        clear hin hout
        intro K Q hK
        go_simp
        exact hK _ _ ⟨Same.refl _, rfl⟩
      refine allp_mild 0 rfl rfl rfl (fun a x W hout hin hP => ?_) ?_
      · have e38 := hin.is 3 38 (by kernel_rfl) (by decide) (by kernel_rfl) (by kernel_rfl) _ rfl
        have e41 := hin.is 6 41 (by kernel_rfl) (by decide) (by kernel_rfl) (by kernel_rfl) _ rfl
        clear hin hout
        intro K Q hK
        go_simp
        exact hK _ _ ⟨Same.refl _, rfl⟩
      refine allp_mild 0 rfl rfl rfl (fun a x W hout hin hP => ?_) ?_
      · have e42 := hin.is 7 42 (by kernel_rfl) (by decide) (by kernel_rfl) (by kernel_rfl) _ rfl
        exact does_move rfl e42 ⟨Same.refl _, rfl⟩
      refine allp_mild 0 rfl rfl rfl (fun a x W hout hin hP => ?_) ?_
      · have e3 : a.tmps[3]? = some (.slice (some ⟨gb, 0, none⟩) 46 cb) := (hout 3 (by kernel_rfl)).trans rfl
        exact does_move rfl e3 ⟨Same.refl _, rfl⟩
      refine allp_mild 0 rfl rfl rfl (fun a x W hout hin hP => ?_) ?_
      · have e44 := hin.is 9 44 (by kernel_rfl) (by decide) (by kernel_rfl) (by kernel_rfl) _ rfl
        clear hin hout
        intro K Q hK
        go_simp
        exact hK _ _ ⟨Same.refl _, rfl⟩
      refine allp_mild 0 rfl rfl rfl (fun a x W hout hin hP => ?_) ?_
      · have e45 := hin.is 10 45 (by kernel_rfl) (by decide) (by kernel_rfl) (by kernel_rfl) _ rfl
        have hc : W.cell? ⟨gb, 5, none⟩ = some (.int .u8 rr) := by have h := hP.2.2.get 5 (by rw [HBL.out]; decide); rw [Nat.zero_add, HR5.out] at h; exact h
        clear hP
        clear hin hout
        intro K Q hK
        go_simp
        exact hK _ _ ⟨Same.refl _, rfl⟩
      refine allp_mild 0 rfl rfl rfl (fun a x W hout hin hP => ?_) ?_
      · have e46 := hin.is 11 46 (by kernel_rfl) (by decide) (by kernel_rfl) (by kernel_rfl) _ rfl
        have hw := HWR.out
        clear hin hout
        intro K Q hK
        go_simp
        exact hK _ _ ⟨Same.refl _, rfl⟩
      refine allp_mild 0 rfl rfl rfl (fun a x W hout hin hP => ?_) ?_
      · have e1 : a.tmps[1]? = some (.pointer (some ⟨g1, 0, none⟩)) := (hout 1 (by kernel_rfl)).trans rfl
        clear hin hout
        intro K Q hK
        go_simp
        exact hK _ _ ⟨Same.refl _, rfl⟩
      refine allp_mild 0 rfl rfl rfl (fun a x W hout hin hP => ?_) ?_
      · have e48 := hin.is 13 48 (by kernel_rfl) (by decide) (by kernel_rfl) (by kernel_rfl) _ rfl
        clear hin hout
        intro K Q hK
        go_simp
        exact hK _ _ ⟨Same.refl _, rfl⟩
      refine allp_mild 0 rfl rfl rfl (fun a x W hout hin hP => ?_) ?_
      · have e49 := hin.is 14 49 (by kernel_rfl) (by decide) (by kernel_rfl) (by kernel_rfl) _ rfl
        have hc : W.cell? ⟨g1, 2, none⟩ = some (.int .i64 rr) := HCR.out ▸ hP.2.1.get (tok_get _ _ rfl)
        clear hP
        clear hin hout
        intro K Q hK
        go_simp
        exact hK _ _ ⟨Same.refl _, rfl⟩
      refine allp_mild 0 rfl rfl rfl (fun a x W hout hin hP => ?_) ?_
      · have e47 := hin.is 12 47 (by kernel_rfl) (by decide) (by kernel_rfl) (by kernel_rfl) _ rfl
        have e50 := hin.is 15 50 (by kernel_rfl) (by decide) (by kernel_rfl) (by kernel_rfl) _ rfl
        clear hin hout
        intro K Q hK
        go_simp
        exact hK _ _ ⟨Same.refl _, rfl⟩
      refine allp_mild 0 rfl rfl rfl (fun a x W hout hin hP => ?_) ?_
      · have e43 := hin.is 8 43 (by kernel_rfl) (by decide) (by kernel_rfl) (by kernel_rfl) _ rfl
        have e51 := hin.is 16 51 (by kernel_rfl) (by decide) (by kernel_rfl) (by kernel_rfl) _ rfl
        exact does_pick rfl e43 ⟨Same.refl _, eval_of_get e51⟩
      exact all_end (by decide)
    · intro x W hP hV
      have hx : x 17 = .bool false := hV 17 (by decide) (.inl (by kernel_rfl))
      have HBT := Lib.hid hP.1
      have HR1 := Lib.hid hP.2.1
      have HBA := Lib.hid hP.2.2
      clear hV hP
      simp only [putL, Act.put, List.setIfInBounds_toArray, List.set_cons_succ, List.set_cons_zero, hx]
      simp only [Nat.zero_add, Nat.reduceAdd]
      refine wpAnyH_done (by kernel_rfl) ?_ _
      clear hx
      go_wp2_with fail
      go_loopw [5] (fun i wr => ∃ k : Nat, k ≤ 4 ∧ i = .int .i64 k ∧ Below w.heap.size w wr ∧ Row wr g1 28 (tokCells c tg) ∧ BAt wr gb 0 B) (fun i _ => 4 - (intOf i).toNat)
      case atStart => exact ⟨0, by omega, rfl, HBT.out, HR1.out, HBA.out⟩
      case round =>
        clear HBT HR1 HBA
        obtain ⟨k, hk4, rfl, hbt, hr1, hba⟩ := hrel
        have HBT := Lib.hid hbt
        have HR1 := Lib.hid hr1
        have HBA := Lib.hid hba
        clear hbt hr1 hba
        by_cases hk : k < 4
        · have hkd : decide ((k : Int) < 4) = true := decide_eq_true (by omega)
          have c1 : wr.cell? ⟨g1, 1, none⟩ = some (.string (strB c.n)) := HR1.out.get (tok_get _ _ rfl)
          have H46 : Hid (k < 4) := Lib.hid hk
          obtain ⟨k1, hk1⟩ : ∃ k1, 1 + k = k1 := ⟨_, rfl⟩
          obtain ⟨k6, hk6⟩ : ∃ k1, 6 + k = k1 := ⟨_, rfl⟩
          obtain ⟨k10, hk10⟩ : ∃ k1, 10 + k = k1 := ⟨_, rfl⟩
          obtain ⟨s8, hs8⟩ : ∃ s8, 8 * k = s8 := ⟨_, rfl⟩
          obtain ⟨h1, h6, h10⟩ := HGETS.out k hk
          rw [hk1] at h1
          rw [hk6, hs8] at h6
          rw [hk10, hs8] at h10
          have HK1 : Hid (IntKind.i64.wrap (1 + (k : Int)) = (k1 : Int)) := Lib.hid (by rw [i64_id _ (by omega) (by omega)]; omega)
          have HK6 : Hid (IntKind.i64.wrap (6 + (k : Int)) = (k6 : Int)) := Lib.hid (by rw [i64_id _ (by omega) (by omega)]; omega)
          have HK10 : Hid (IntKind.i64.wrap (10 + (k : Int)) = (k10 : Int)) := Lib.hid (by rw [i64_id _ (by omega) (by omega)]; omega)
          have HS8 : Hid (IntKind.i64.wrap (8 * (k : Int)) = (s8 : Int)) := Lib.hid (by rw [i64_id _ (by omega) (by omega)]; omega)
          have HS8U : Hid (IntKind.u64.wrap (s8 : Int) = (s8 : Int)) := Lib.hid (by rw [IntKind.wrap_u64]; omega)
          have HSH : Hid (wd c.u / 2 ^ s8 = wd (c.u >>> s8)) := Lib.hid (shr_wd c.u s8)
          have HSH2 : Hid (wd c.g / 2 ^ s8 = wd (c.g >>> s8)) := Lib.hid (shr_wd c.g s8)
          have b1 : (0 : Int) ≤ (k1 : Int) ∧ (k1 : Int) < 46 ∧ k1 < 46 := ⟨by omega, by omega, by omega⟩
          have b6 : (0 : Int) ≤ (k6 : Int) ∧ (k6 : Int) < 46 ∧ k6 < 46 := ⟨by omega, by omega, by omega⟩
          have b10 : (0 : Int) ≤ (k10 : Int) ∧ (k10 : Int) < 46 ∧ k10 < 46 := ⟨by omega, by omega, by omega⟩
          have hs32 : s8 < 32 := by omega
          obtain ⟨a1, a2, a3⟩ := b1
          obtain ⟨a4, a5, a6⟩ := b6
          obtain ⟨a7, a8, a9⟩ := b10
          obtain ⟨y6, hy6⟩ : ∃ y, (c.u >>> s8).setWidth 8 = y := ⟨_, rfl⟩
          obtain ⟨y10, hy10⟩ : ∃ y, (c.g >>> s8).setWidth 8 = y := ⟨_, rfl⟩
          have HY6 : Hid (IntKind.u8.wrap (wd (c.u >>> s8)) = bd y6) := Lib.hid (by rw [low_wd, hy6])
          have HY10 : Hid (IntKind.u8.wrap (wd (c.g >>> s8)) = bd y10) := Lib.hid (by rw [low_wd, hy10])
          have HV6 : Hid (bd (B.getD k6 0#8) = bd y6) := Lib.hid (by rw [h6, hy6])
          have HV10 : Hid (bd (B.getD k10 0#8) = bd y10) := Lib.hid (by rw [h10, hy10])
          have hw5 : IntKind.i64.wrap ((k : Int) + 1) = ((k + 1 : Nat) : Int) := by rw [i64_id _ (by omega) (by omega)]; omega
          clear hk1 hk6 hk10 hs8 h6 h10 hy6 hy10
          by_cases hkn : k < nl
          · have hknd : decide ((k : Int) < (nl : Int)) = true := decide_eq_true (by omega)
            have hix : ∀ w, (Instr.index 9 (.string (strB c.n)) (.int .i64 (k : Int))).run Tryd.prog w = .ok (.int .u8 (bd (B.getD k1 0#8))) w := fun w => by
              have := run_ix w 9 c.n .i64 k Tryd.underlying9 (by rw [hnl]; exact hkn)
              rw [this, h1]
            obtain ⟨v6, hv6⟩ : ∃ v6, bd (B.getD k1 0#8) = v6 := ⟨_, rfl⟩
            rw [hv6] at hix
            have HV1 := Lib.hid hv6
            clear hv6 h1
            go_upto_region 14 with fail
            have hF0 : Wl [fun W => Below w.heap.size w W ∧ Row W g1 28 (tokCells c tg) ∧ BAt W gb 0 B] 0 wr.drew := ⟨HBT.out.trans ((Below.refl _ _).drew.mono HBT.out.size), HR1.out.call (Below.refl _ _).drew, HBA.out.call (Below.refl _ _).drew⟩
            clear HBT HR1 HBA c1 hix
            refine wp_region_phs [is (.slice (some ⟨gb, 0, none⟩) 46 cb), is (.int .i64 (k : Int)), is (.int .i64 (k1 : Int)), is (.pointer (some ⟨gb, k1, none⟩)), is (.int .u8 v6), is (.int .u8 v6), is (.bool false), is (.bool false), is (.slice (some ⟨gb, 0, none⟩) 46 cb), is (.int .i64 (k : Int)), is (.int .i64 (k6 : Int)), is (.pointer (some ⟨gb, k6, none⟩)), is (.int .u8 (bd y6)), is (.pointer (some ⟨g1, 0, none⟩)), is (.pointer (some ⟨g1, 3, none⟩)), is (.int .u32 (wd c.u)), is (.int .i64 (k : Int)), is (.int .i64 (s8 : Int)), is (.int .u64 (s8 : Int)), is (.int .u32 (wd (c.u >>> s8))), is (.int .u8 (bd y6)), is (.bool false), is (.bool false), is (.bool false), is (.slice (some ⟨gb, 0, none⟩) 46 cb), is (.int .i64 (k : Int)), is (.int .i64 (k10 : Int)), is (.pointer (some ⟨gb, k10, none⟩)), is (.int .u8 (bd y10)), is (.pointer (some ⟨g1, 0, none⟩)), is (.pointer (some ⟨g1, 4, none⟩)), is (.int .u32 (wd c.g)), is (.int .i64 (k : Int)), is (.int .i64 (s8 : Int)), is (.int .u64 (s8 : Int)), is (.int .u32 (wd (c.g >>> s8))), is (.int .u8 (bd y10)), is (.bool false), is (.bool false)] [true, true, true, true, true, true, true, true, true, true, true, true, true, true, true, true, true, true, true, true, true, true, true, true, true, true, true, true, true, true, true, true, true, true, true, true, true, true, true] [(fun W => Below w.heap.size w W ∧ Row W g1 28 (tokCells c tg) ∧ BAt W gb 0 B)] [false, false, false, false, false, false, false, false, false, false, false, false, false, false, false, false, false, false, false, false, false, false, false, false, false, false, false, false, false, false, false, false, false, false, false, false, false, false, false] [some 0, some 0, some 0, some 0, some 0, some 0, some 0, some 0, some 0, some 0, some 0, some 0, some 0, some 0, some 0, some 0, some 0, some 0, some 0, some 0, some 0, some 0, some 0, some 0, some 0, some 0, some 0, some 0, some 0, some 0, some 0, some 0, some 0, some 0, some 0, some 0, some 0, some 0, some 0] [some 68, some 69, some 70, some 71, some 72, some 73, some 74, some 75, some 76, some 77, some 78, some 79, some 80, some 81, some 82, some 83, some 84, some 85, some 86, some 87, some 88, some 89, some 90, some 91, some 92, some 93, some 94, some 95, some 96, some 97, some 98, some 99, some 100, some 101, some 102, some 103, some 104, some 105, some 106] 39 0 (fun _ => true) rfl rfl (by kernel_rfl) (by kernel_rfl) (by kernel_rfl) (by kernel_rfl) ?_ ?_ ?_ ?_ ?_ ?_
            · repeat first | exact wok_nil | refine wok_cons (by first | exact fun _ _ h k => ⟨h.1.trans (k.mono h.1.size), h.2.1.call k, h.2.2.call k⟩) ?_
            · repeat first | exact vok_nil | refine vok_rig (by first | exact fun _ _ _ h => h) ?_ | refine vok_soft (by first | exact fun _ _ _ h _ => h) ?_
            · exact hF0
            · repeat first | exact all_end (by decide) | refine all_cons (by first | exact rfl | exact ⟨rfl, fun _ _ h => Or.inl h⟩ | exact ⟨rfl, fun _ _ h => Or.inr ⟨h, rfl⟩⟩) ?_
            · refine allp_mild 0 rfl rfl rfl (fun a x W hout hin hP => ?_) ?_
              · have e3 : a.tmps[3]? = some (.slice (some ⟨gb, 0, none⟩) 46 cb) := (hout 3 (by kernel_rfl)).trans rfl
                exact does_move rfl e3 ⟨Same.refl _, rfl⟩
              refine allp_mild 0 rfl rfl rfl (fun a x W hout hin hP => ?_) ?_
              · have e5 : a.tmps[5]? = some (.int .i64 (k : Int)) := (hout 5 (by kernel_rfl)).trans rfl
                exact does_move rfl e5 ⟨Same.refl _, rfl⟩
              refine allp_mild 0 rfl rfl rfl (fun a x W hout hin hP => ?_) ?_
              · have e69 := hin.is 1 69 (by kernel_rfl) (by decide) (by kernel_rfl) (by kernel_rfl) _ rfl
                have hw := HK1.out
                clear hin hout
                intro K Q hK
                go_simp
                exact hK _ _ ⟨Same.refl _, rfl⟩
              refine allp_mild 0 rfl rfl rfl (fun a x W hout hin hP => ?_) ?_
              · have e68 := hin.is 0 68 (by kernel_rfl) (by decide) (by kernel_rfl) (by kernel_rfl) _ rfl
                have e70 := hin.is 2 70 (by kernel_rfl) (by decide) (by kernel_rfl) (by kernel_rfl) _ rfl
                clear hin hout
                intro K Q hK
                go_simp
                exact hK _ _ ⟨Same.refl _, rfl⟩
              refine allp_mild 0 rfl rfl rfl (fun a x W hout hin hP => ?_) ?_
              · have e71 := hin.is 3 71 (by kernel_rfl) (by decide) (by kernel_rfl) (by kernel_rfl) _ rfl
                have hc : W.cell? ⟨gb, k1, none⟩ = some (.int .u8 v6) := by have h := hP.2.2.get k1 (by rw [HBL.out]; have := H46.out; omega); rw [Nat.zero_add, HV1.out] at h; exact h
                clear hP
                clear hin hout
                intro K Q hK
                go_simp
                exact hK _ _ ⟨Same.refl _, rfl⟩
              refine allp_mild 0 rfl rfl rfl (fun a x W hout hin hP => ?_) ?_
              · have e6 : a.tmps[6]? = some (.int .u8 v6) := (hout 6 (by kernel_rfl)).trans rfl
                exact does_move rfl e6 ⟨Same.refl _, rfl⟩
              refine allp_mild 0 rfl rfl rfl (fun a x W hout hin hP => ?_) ?_
              · have e72 := hin.is 4 72 (by kernel_rfl) (by decide) (by kernel_rfl) (by kernel_rfl) _ rfl
                have e73 := hin.is 5 73 (by kernel_rfl) (by decide) (by kernel_rfl) (by kernel_rfl) _ rfl
                clear hin hout
                intro K Q hK
                go_simp
                exact hK _ _ ⟨Same.refl _, rfl⟩
              refine allp_mild 0 rfl rfl rfl (fun a x W hout hin hP => ?_) ?_
              · have e74 := hin.is 6 74 (by kernel_rfl) (by decide) (by kernel_rfl) (by kernel_rfl) _ rfl
                exact does_move rfl e74 ⟨Same.refl _, rfl⟩
              refine allp_mild 0 rfl rfl rfl (fun a x W hout hin hP => ?_) ?_
              · have e3 : a.tmps[3]? = some (.slice (some ⟨gb, 0, none⟩) 46 cb) := (hout 3 (by kernel_rfl)).trans rfl
                exact does_move rfl e3 ⟨Same.refl _, rfl⟩
              refine allp_mild 0 rfl rfl rfl (fun a x W hout hin hP => ?_) ?_
              · have e5 : a.tmps[5]? = some (.int .i64 (k : Int)) := (hout 5 (by kernel_rfl)).trans rfl
                exact does_move rfl e5 ⟨Same.refl _, rfl⟩
              refine allp_mild 0 rfl rfl rfl (fun a x W hout hin hP => ?_) ?_
              · have e77 := hin.is 9 77 (by kernel_rfl) (by decide) (by kernel_rfl) (by kernel_rfl) _ rfl
                have hw := HK6.out
                clear hin hout
                intro K Q hK
                go_simp
                exact hK _ _ ⟨Same.refl _, rfl⟩
              refine allp_mild 0 rfl rfl rfl (fun a x W hout hin hP => ?_) ?_
              · have e76 := hin.is 8 76 (by kernel_rfl) (by decide) (by kernel_rfl) (by kernel_rfl) _ rfl
                have e78 := hin.is 10 78 (by kernel_rfl) (by decide) (by kernel_rfl) (by kernel_rfl) _ rfl
                clear hin hout
                intro K Q hK
                go_simp
                exact hK _ _ ⟨Same.refl _, rfl⟩
              refine allp_mild 0 rfl rfl rfl (fun a x W hout hin hP => ?_) ?_
              · have e79 := hin.is 11 79 (by kernel_rfl) (by decide) (by kernel_rfl) (by kernel_rfl) _ rfl
                have hc : W.cell? ⟨gb, k6, none⟩ = some (.int .u8 (bd y6)) := by have h := hP.2.2.get k6 (by rw [HBL.out]; have := H46.out; omega); rw [Nat.zero_add, HV6.out] at h; exact h
                clear hP
                clear hin hout
                intro K Q hK
                go_simp
                exact hK _ _ ⟨Same.refl _, rfl⟩
              refine allp_mild 0 rfl rfl rfl (fun a x W hout hin hP => ?_) ?_
              · have e1 : a.tmps[1]? = some (.pointer (some ⟨g1, 0, none⟩)) := (hout 1 (by kernel_rfl)).trans rfl
                clear hin hout
                intro K Q hK
                go_simp
                exact hK _ _ ⟨Same.refl _, rfl⟩
              refine allp_mild 0 rfl rfl rfl (fun a x W hout hin hP => ?_) ?_
              · have e81 := hin.is 13 81 (by kernel_rfl) (by decide) (by kernel_rfl) (by kernel_rfl) _ rfl
                clear hin hout
                intro K Q hK
                go_simp
                exact hK _ _ ⟨Same.refl _, rfl⟩
              refine allp_mild 0 rfl rfl rfl (fun a x W hout hin hP => ?_) ?_
              · have e82 := hin.is 14 82 (by kernel_rfl) (by decide) (by kernel_rfl) (by kernel_rfl) _ rfl
                have hc : W.cell? ⟨g1, 3, none⟩ = some (.int .u32 (wd c.u)) := hP.2.1.get (tok_get _ _ rfl)
                clear hP
                clear hin hout
                intro K Q hK
                go_simp
                exact hK _ _ ⟨Same.refl _, rfl⟩
              refine allp_mild 0 rfl rfl rfl (fun a x W hout hin hP => ?_) ?_
              · have e5 : a.tmps[5]? = some (.int .i64 (k : Int)) := (hout 5 (by kernel_rfl)).trans rfl
                exact does_move rfl e5 ⟨Same.refl _, rfl⟩
              refine allp_mild 0 rfl rfl rfl (fun a x W hout hin hP => ?_) ?_
              · have e84 := hin.is 16 84 (by kernel_rfl) (by decide) (by kernel_rfl) (by kernel_rfl) _ rfl
                have hw := HS8.out
                clear hin hout
                intro K Q hK
                go_simp
                exact hK _ _ ⟨Same.refl _, rfl⟩
              refine allp_mild 0 rfl rfl rfl (fun a x W hout hin hP => ?_) ?_
              · have e85 := hin.is 17 85 (by kernel_rfl) (by decide) (by kernel_rfl) (by kernel_rfl) _ rfl
                have hw := HS8U.out
                clear hin hout
                intro K Q hK
                go_simp
                exact hK _ _ ⟨Same.refl _, rfl⟩
              refine allp_mild 0 rfl rfl rfl (fun a x W hout hin hP => ?_) ?_
              · have e83 := hin.is 15 83 (by kernel_rfl) (by decide) (by kernel_rfl) (by kernel_rfl) _ rfl
                have e86 := hin.is 18 86 (by kernel_rfl) (by decide) (by kernel_rfl) (by kernel_rfl) _ rfl
                have hw := HSH.out
                clear hin hout
                intro K Q hK
                go_simp
                exact hK _ _ ⟨Same.refl _, rfl⟩
              refine allp_mild 0 rfl rfl rfl (fun a x W hout hin hP => ?_) ?_
              · have e87 := hin.is 19 87 (by kernel_rfl) (by decide) (by kernel_rfl) (by kernel_rfl) _ rfl
                have hw := HY6.out
                clear hin hout
                intro K Q hK
                go_simp
                exact hK _ _ ⟨Same.refl _, rfl⟩
              refine allp_mild 0 rfl rfl rfl (fun a x W hout hin hP => ?_) ?_
              · have e80 := hin.is 12 80 (by kernel_rfl) (by decide) (by kernel_rfl) (by kernel_rfl) _ rfl
                have e88 := hin.is 20 88 (by kernel_rfl) (by decide) (by kernel_rfl) (by kernel_rfl) _ rfl
                clear hin hout
                intro K Q hK
                go_simp
                exact hK _ _ ⟨Same.refl _, rfl⟩
              refine allp_mild 0 rfl rfl rfl (fun a x W hout hin hP => ?_) ?_
              · have e75 := hin.is 7 75 (by kernel_rfl) (by decide) (by kernel_rfl) (by kernel_rfl) _ rfl
                have e89 := hin.is 21 89 (by kernel_rfl) (by decide) (by kernel_rfl) (by kernel_rfl) _ rfl
                exact does_pick rfl e75 ⟨Same.refl _, eval_of_get e89⟩
              refine allp_mild 0 rfl rfl rfl (fun a x W hout hin hP => ?_) ?_
              · have e90 := hin.is 22 90 (by kernel_rfl) (by decide) (by kernel_rfl) (by kernel_rfl) _ rfl
                exact does_move rfl e90 ⟨Same.refl _, rfl⟩
              refine allp_mild 0 rfl rfl rfl (fun a x W hout hin hP => ?_) ?_
              · have e3 : a.tmps[3]? = some (.slice (some ⟨gb, 0, none⟩) 46 cb) := (hout 3 (by kernel_rfl)).trans rfl
                exact does_move rfl e3 ⟨Same.refl _, rfl⟩
              refine allp_mild 0 rfl rfl rfl (fun a x W hout hin hP => ?_) ?_
              · have e5 : a.tmps[5]? = some (.int .i64 (k : Int)) := (hout 5 (by kernel_rfl)).trans rfl
                exact does_move rfl e5 ⟨Same.refl _, rfl⟩
              refine allp_mild 0 rfl rfl rfl (fun a x W hout hin hP => ?_) ?_
              · have e93 := hin.is 25 93 (by kernel_rfl) (by decide) (by kernel_rfl) (by kernel_rfl) _ rfl
                have hw := HK10.out
                clear hin hout
                intro K Q hK
                go_simp
                exact hK _ _ ⟨Same.refl _, rfl⟩
              refine allp_mild 0 rfl rfl rfl (fun a x W hout hin hP => ?_) ?_
              · have e92 := hin.is 24 92 (by kernel_rfl) (by decide) (by kernel_rfl) (by kernel_rfl) _ rfl
                have e94 := hin.is 26 94 (by kernel_rfl) (by decide) (by kernel_rfl) (by kernel_rfl) _ rfl
                clear hin hout
                intro K Q hK
                go_simp
                exact hK _ _ ⟨Same.refl _, rfl⟩
              refine allp_mild 0 rfl rfl rfl (fun a x W hout hin hP => ?_) ?_
              · have e95 := hin.is 27 95 (by kernel_rfl) (by decide) (by kernel_rfl) (by kernel_rfl) _ rfl
                have hc : W.cell? ⟨gb, k10, none⟩ = some (.int .u8 (bd y10)) := by have h := hP.2.2.get k10 (by rw [HBL.out]; have := H46.out; omega); rw [Nat.zero_add, HV10.out] at h; exact h
                clear hP
                clear hin hout
                intro K Q hK
                go_simp
                exact hK _ _ ⟨Same.refl _, rfl⟩
              refine allp_mild 0 rfl rfl rfl (fun a x W hout hin hP => ?_) ?_
              · have e1 : a.tmps[1]? = some (.pointer (some ⟨g1, 0, none⟩)) := (hout 1 (by kernel_rfl)).trans rfl
                clear hin hout
                intro K Q hK
                go_simp
                exact hK _ _ ⟨Same.refl _, rfl⟩
              refine allp_mild 0 rfl rfl rfl (fun a x W hout hin hP => ?_) ?_
              · have e97 := hin.is 29 97 (by kernel_rfl) (by decide) (by kernel_rfl) (by kernel_rfl) _ rfl
                clear hin hout
                intro K Q hK
                go_simp
                exact hK _ _ ⟨Same.refl _, rfl⟩
              refine allp_mild 0 rfl rfl rfl (fun a x W hout hin hP => ?_) ?_
              · have e98 := hin.is 30 98 (by kernel_rfl) (by decide) (by kernel_rfl) (by kernel_rfl) _ rfl
                have hc : W.cell? ⟨g1, 4, none⟩ = some (.int .u32 (wd c.g)) := hP.2.1.get (tok_get _ _ rfl)
                clear hP
                clear hin hout
                intro K Q hK
                go_simp
                exact hK _ _ ⟨Same.refl _, rfl⟩
              refine allp_mild 0 rfl rfl rfl (fun a x W hout hin hP => ?_) ?_
              · have e5 : a.tmps[5]? = some (.int .i64 (k : Int)) := (hout 5 (by kernel_rfl)).trans rfl
                exact does_move rfl e5 ⟨Same.refl _, rfl⟩
              refine allp_mild 0 rfl rfl rfl (fun a x W hout hin hP => ?_) ?_
              · have e100 := hin.is 32 100 (by kernel_rfl) (by decide) (by kernel_rfl) (by kernel_rfl) _ rfl
                have hw := HS8.out
                clear hin hout
                intro K Q hK
                go_simp
                exact hK _ _ ⟨Same.refl _, rfl⟩
              refine allp_mild 0 rfl rfl rfl (fun a x W hout hin hP => ?_) ?_
              · have e101 := hin.is 33 101 (by kernel_rfl) (by decide) (by kernel_rfl) (by kernel_rfl) _ rfl
                have hw := HS8U.out
                clear hin hout
                intro K Q hK
                go_simp
                exact hK _ _ ⟨Same.refl _, rfl⟩
              refine allp_mild 0 rfl rfl rfl (fun a x W hout hin hP => ?_) ?_
              · have e99 := hin.is 31 99 (by kernel_rfl) (by decide) (by kernel_rfl) (by kernel_rfl) _ rfl
                have e102 := hin.is 34 102 (by kernel_rfl) (by decide) (by kernel_rfl) (by kernel_rfl) _ rfl
                have hw := HSH2.out
                clear hin hout
                intro K Q hK
                go_simp
                exact hK _ _ ⟨Same.refl _, rfl⟩
              refine allp_mild 0 rfl rfl rfl (fun a x W hout hin hP => ?_) ?_
              · have e103 := hin.is 35 103 (by kernel_rfl) (by decide) (by kernel_rfl) (by kernel_rfl) _ rfl
                have hw := HY10.out
                clear hin hout
                intro K Q hK
                go_simp
                exact hK _ _ ⟨Same.refl _, rfl⟩
              refine allp_mild 0 rfl rfl rfl (fun a x W hout hin hP => ?_) ?_
              · have e96 := hin.is 28 96 (by kernel_rfl) (by decide) (by kernel_rfl) (by kernel_rfl) _ rfl
                have e104 := hin.is 36 104 (by kernel_rfl) (by decide) (by kernel_rfl) (by kernel_rfl) _ rfl
                clear hin hout
                intro K Q hK
                go_simp
                exact hK _ _ ⟨Same.refl _, rfl⟩
              refine allp_mild 0 rfl rfl rfl (fun a x W hout hin hP => ?_) ?_
              · have e91 := hin.is 23 91 (by kernel_rfl) (by decide) (by kernel_rfl) (by kernel_rfl) _ rfl
                have e105 := hin.is 37 105 (by kernel_rfl) (by decide) (by kernel_rfl) (by kernel_rfl) _ rfl
                exact does_pick rfl e91 ⟨Same.refl _, eval_of_get e105⟩
              exact all_end (by decide)
            · intro x W hP hV
              have hx : x 38 = .bool false := hV 38 (by decide) (.inl (by kernel_rfl))
              have HBT := Lib.hid hP.1
              have HR1 := Lib.hid hP.2.1
              have HBA := Lib.hid hP.2.2
              clear hV hP
              simp only [putL, Act.put, List.setIfInBounds_toArray, List.set_cons_succ, List.set_cons_zero, hx]
              simp only [Nat.zero_add, Nat.reduceAdd]
              refine wpAnyH_done (by kernel_rfl) ?_ _
              clear hx
              go_wp2_with fail
              exact ⟨⟨k + 1, by omega, by go_num, HBT.out, HR1.out, HBA.out⟩, by simp [intOf]; omega⟩
          · have hknd : decide ((k : Int) < (nl : Int)) = false := decide_eq_false (by omega)
            have HV1 : Hid (bd (B.getD k1 0#8) = 0) := Lib.hid (by
              rw [h1, List.getD_eq_getElem?_getD, List.getElem?_eq_none (by omega)]; rfl)
            clear h1
            go_upto_region 14 with fail
            have hF0 : Wl [fun W => Below w.heap.size w W ∧ Row W g1 28 (tokCells c tg) ∧ BAt W gb 0 B] 0 wr.drew := ⟨HBT.out.trans ((Below.refl _ _).drew.mono HBT.out.size), HR1.out.call (Below.refl _ _).drew, HBA.out.call (Below.refl _ _).drew⟩
            clear HBT HR1 HBA c1
            refine wp_region_phs [is (.slice (some ⟨gb, 0, none⟩) 46 cb), is (.int .i64 (k : Int)), is (.int .i64 (k1 : Int)), is (.pointer (some ⟨gb, k1, none⟩)), is (.int .u8 0), is (.int .u8 0), is (.bool false), is (.bool false), is (.slice (some ⟨gb, 0, none⟩) 46 cb), is (.int .i64 (k : Int)), is (.int .i64 (k6 : Int)), is (.pointer (some ⟨gb, k6, none⟩)), is (.int .u8 (bd y6)), is (.pointer (some ⟨g1, 0, none⟩)), is (.pointer (some ⟨g1, 3, none⟩)), is (.int .u32 (wd c.u)), is (.int .i64 (k : Int)), is (.int .i64 (s8 : Int)), is (.int .u64 (s8 : Int)), is (.int .u32 (wd (c.u >>> s8))), is (.int .u8 (bd y6)), is (.bool false), is (.bool false), is (.bool false), is (.slice (some ⟨gb, 0, none⟩) 46 cb), is (.int .i64 (k : Int)), is (.int .i64 (k10 : Int)), is (.pointer (some ⟨gb, k10, none⟩)), is (.int .u8 (bd y10)), is (.pointer (some ⟨g1, 0, none⟩)), is (.pointer (some ⟨g1, 4, none⟩)), is (.int .u32 (wd c.g)), is (.int .i64 (k : Int)), is (.int .i64 (s8 : Int)), is (.int .u64 (s8 : Int)), is (.int .u32 (wd (c.g >>> s8))), is (.int .u8 (bd y10)), is (.bool false), is (.bool false)] [true, true, true, true, true, true, true, true, true, true, true, true, true, true, true, true, true, true, true, true, true, true, true, true, true, true, true, true, true, true, true, true, true, true, true, true, true, true, true] [(fun W => Below w.heap.size w W ∧ Row W g1 28 (tokCells c tg) ∧ BAt W gb 0 B)] [false, false, false, false, false, false, false, false, false, false, false, false, false, false, false, false, false, false, false, false, false, false, false, false, false, false, false, false, false, false, false, false, false, false, false, false, false, false, false] [some 0, some 0, some 0, some 0, some 0, some 0, some 0, some 0, some 0, some 0, some 0, some 0, some 0, some 0, some 0, some 0, some 0, some 0, some 0, some 0, some 0, some 0, some 0, some 0, some 0, some 0, some 0, some 0, some 0, some 0, some 0, some 0, some 0, some 0, some 0, some 0, some 0, some 0, some 0] [some 68, some 69, some 70, some 71, some 72, some 73, some 74, some 75, some 76, some 77, some 78, some 79, some 80, some 81, some 82, some 83, some 84, some 85, some 86, some 87, some 88, some 89, some 90, some 91, some 92, some 93, some 94, some 95, some 96, some 97, some 98, some 99, some 100, some 101, some 102, some 103, some 104, some 105, some 106] 39 0 (fun _ => true) rfl rfl (by kernel_rfl) (by kernel_rfl) (by kernel_rfl) (by kernel_rfl) ?_ ?_ ?_ ?_ ?_ ?_
            · repeat first | exact wok_nil | refine wok_cons (by first | exact fun _ _ h k => ⟨h.1.trans (k.mono h.1.size), h.2.1.call k, h.2.2.call k⟩) ?_
            · repeat first | exact vok_nil | refine vok_rig (by first | exact fun _ _ _ h => h) ?_ | refine vok_soft (by first | exact fun _ _ _ h _ => h) ?_
            · exact hF0
            · repeat first | exact all_end (by decide) | refine all_cons (by first | exact rfl | exact ⟨rfl, fun _ _ h => Or.inl h⟩ | exact ⟨rfl, fun _ _ h => Or.inr ⟨h, rfl⟩⟩) ?_
            · refine allp_mild 0 rfl rfl rfl (fun a x W hout hin hP => ?_) ?_
              · have e3 : a.tmps[3]? = some (.slice (some ⟨gb, 0, none⟩) 46 cb) := (hout 3 (by kernel_rfl)).trans rfl
                exact does_move rfl e3 ⟨Same.refl _, rfl⟩
              refine allp_mild 0 rfl rfl rfl (fun a x W hout hin hP => ?_) ?_
              · have e5 : a.tmps[5]? = some (.int .i64 (k : Int)) := (hout 5 (by kernel_rfl)).trans rfl
                exact does_move rfl e5 ⟨Same.refl _, rfl⟩
              refine allp_mild 0 rfl rfl rfl (fun a x W hout hin hP => ?_) ?_
              · have e69 := hin.is 1 69 (by kernel_rfl) (by decide) (by kernel_rfl) (by kernel_rfl) _ rfl
                have hw := HK1.out
                clear hin hout
                intro K Q hK
                go_simp
                exact hK _ _ ⟨Same.refl _, rfl⟩
              refine allp_mild 0 rfl rfl rfl (fun a x W hout hin hP => ?_) ?_
              · have e68 := hin.is 0 68 (by kernel_rfl) (by decide) (by kernel_rfl) (by kernel_rfl) _ rfl
                have e70 := hin.is 2 70 (by kernel_rfl) (by decide) (by kernel_rfl) (by kernel_rfl) _ rfl
                clear hin hout
                intro K Q hK
                go_simp
                exact hK _ _ ⟨Same.refl _, rfl⟩
              refine allp_mild 0 rfl rfl rfl (fun a x W hout hin hP => ?_) ?_
              · have e71 := hin.is 3 71 (by kernel_rfl) (by decide) (by kernel_rfl) (by kernel_rfl) _ rfl
                have hc : W.cell? ⟨gb, k1, none⟩ = some (.int .u8 0) := by have h := hP.2.2.get k1 (by rw [HBL.out]; have := H46.out; omega); rw [Nat.zero_add, HV1.out] at h; exact h
                clear hP
                clear hin hout
                intro K Q hK
                go_simp
                exact hK _ _ ⟨Same.refl _, rfl⟩
              refine allp_mild 0 rfl rfl rfl (fun a x W hout hin hP => ?_) ?_
              · have e6 : a.tmps[6]? = some (.int .u8 0) := (hout 6 (by kernel_rfl)).trans rfl
                exact does_move rfl e6 ⟨Same.refl _, rfl⟩
              refine allp_mild 0 rfl rfl rfl (fun a x W hout hin hP => ?_) ?_
              · have e72 := hin.is 4 72 (by kernel_rfl) (by decide) (by kernel_rfl) (by kernel_rfl) _ rfl
                have e73 := hin.is 5 73 (by kernel_rfl) (by decide) (by kernel_rfl) (by kernel_rfl) _ rfl
                clear hin hout
                intro K Q hK
                go_simp
                exact hK _ _ ⟨Same.refl _, rfl⟩
              refine allp_mild 0 rfl rfl rfl (fun a x W hout hin hP => ?_) ?_
              · have e74 := hin.is 6 74 (by kernel_rfl) (by decide) (by kernel_rfl) (by kernel_rfl) _ rfl
                exact does_move rfl e74 ⟨Same.refl _, rfl⟩
              refine allp_mild 0 rfl rfl rfl (fun a x W hout hin hP => ?_) ?_
              · have e3 : a.tmps[3]? = some (.slice (some ⟨gb, 0, none⟩) 46 cb) := (hout 3 (by kernel_rfl)).trans rfl
                exact does_move rfl e3 ⟨Same.refl _, rfl⟩
              refine allp_mild 0 rfl rfl rfl (fun a x W hout hin hP => ?_) ?_
              · have e5 : a.tmps[5]? = some (.int .i64 (k : Int)) := (hout 5 (by kernel_rfl)).trans rfl
                exact does_move rfl e5 ⟨Same.refl _, rfl⟩
              refine allp_mild 0 rfl rfl rfl (fun a x W hout hin hP => ?_) ?_
              · have e77 := hin.is 9 77 (by kernel_rfl) (by decide) (by kernel_rfl) (by kernel_rfl) _ rfl
                have hw := HK6.out
                clear hin hout
                intro K Q hK
                go_simp
                exact hK _ _ ⟨Same.refl _, rfl⟩
              refine allp_mild 0 rfl rfl rfl (fun a x W hout hin hP => ?_) ?_
              · have e76 := hin.is 8 76 (by kernel_rfl) (by decide) (by kernel_rfl) (by kernel_rfl) _ rfl
                have e78 := hin.is 10 78 (by kernel_rfl) (by decide) (by kernel_rfl) (by kernel_rfl) _ rfl
                clear hin hout
                intro K Q hK
                go_simp
                exact hK _ _ ⟨Same.refl _, rfl⟩
              refine allp_mild 0 rfl rfl rfl (fun a x W hout hin hP => ?_) ?_
              · have e79 := hin.is 11 79 (by kernel_rfl) (by decide) (by kernel_rfl) (by kernel_rfl) _ rfl
                have hc : W.cell? ⟨gb, k6, none⟩ = some (.int .u8 (bd y6)) := by have h := hP.2.2.get k6 (by rw [HBL.out]; have := H46.out; omega); rw [Nat.zero_add, HV6.out] at h; exact h
                clear hP
                clear hin hout
                intro K Q hK
                go_simp
                exact hK _ _ ⟨Same.refl _, rfl⟩
              refine allp_mild 0 rfl rfl rfl (fun a x W hout hin hP => ?_) ?_
              · have e1 : a.tmps[1]? = some (.pointer (some ⟨g1, 0, none⟩)) := (hout 1 (by kernel_rfl)).trans rfl
                clear hin hout
                intro K Q hK
                go_simp
                exact hK _ _ ⟨Same.refl _, rfl⟩
              refine allp_mild 0 rfl rfl rfl (fun a x W hout hin hP => ?_) ?_
              · have e81 := hin.is 13 81 (by kernel_rfl) (by decide) (by kernel_rfl) (by kernel_rfl) _ rfl
                clear hin hout
                intro K Q hK
                go_simp
                exact hK _ _ ⟨Same.refl _, rfl⟩
              refine allp_mild 0 rfl rfl rfl (fun a x W hout hin hP => ?_) ?_
              · have e82 := hin.is 14 82 (by kernel_rfl) (by decide) (by kernel_rfl) (by kernel_rfl) _ rfl
                have hc : W.cell? ⟨g1, 3, none⟩ = some (.int .u32 (wd c.u)) := hP.2.1.get (tok_get _ _ rfl)
                clear hP
                clear hin hout
                intro K Q hK
                go_simp
                exact hK _ _ ⟨Same.refl _, rfl⟩
              refine allp_mild 0 rfl rfl rfl (fun a x W hout hin hP => ?_) ?_
              · have e5 : a.tmps[5]? = some (.int .i64 (k : Int)) := (hout 5 (by kernel_rfl)).trans rfl
                exact does_move rfl e5 ⟨Same.refl _, rfl⟩
              refine allp_mild 0 rfl rfl rfl (fun a x W hout hin hP => ?_) ?_
              · have e84 := hin.is 16 84 (by kernel_rfl) (by decide) (by kernel_rfl) (by kernel_rfl) _ rfl
                have hw := HS8.out
                clear hin hout
                intro K Q hK
                go_simp
                exact hK _ _ ⟨Same.refl _, rfl⟩
              refine allp_mild 0 rfl rfl rfl (fun a x W hout hin hP => ?_) ?_
              · have e85 := hin.is 17 85 (by kernel_rfl) (by decide) (by kernel_rfl) (by kernel_rfl) _ rfl
                have hw := HS8U.out
                clear hin hout
                intro K Q hK
                go_simp
                exact hK _ _ ⟨Same.refl _, rfl⟩
              refine allp_mild 0 rfl rfl rfl (fun a x W hout hin hP => ?_) ?_
              · have e83 := hin.is 15 83 (by kernel_rfl) (by decide) (by kernel_rfl) (by kernel_rfl) _ rfl
                have e86 := hin.is 18 86 (by kernel_rfl) (by decide) (by kernel_rfl) (by kernel_rfl) _ rfl
                have hw := HSH.out
                clear hin hout
                intro K Q hK
                go_simp
                exact hK _ _ ⟨Same.refl _, rfl⟩
              refine allp_mild 0 rfl rfl rfl (fun a x W hout hin hP => ?_) ?_
              · have e87 := hin.is 19 87 (by kernel_rfl) (by decide) (by kernel_rfl) (by kernel_rfl) _ rfl
                have hw := HY6.out
                clear hin hout
                intro K Q hK
                go_simp
                exact hK _ _ ⟨Same.refl _, rfl⟩
              refine allp_mild 0 rfl rfl rfl (fun a x W hout hin hP => ?_) ?_
              · have e80 := hin.is 12 80 (by kernel_rfl) (by decide) (by kernel_rfl) (by kernel_rfl) _ rfl
                have e88 := hin.is 20 88 (by kernel_rfl) (by decide) (by kernel_rfl) (by kernel_rfl) _ rfl
                clear hin hout
                intro K Q hK
                go_simp
                exact hK _ _ ⟨Same.refl _, rfl⟩
              refine allp_mild 0 rfl rfl rfl (fun a x W hout hin hP => ?_) ?_
              · have e75 := hin.is 7 75 (by kernel_rfl) (by decide) (by kernel_rfl) (by kernel_rfl) _ rfl
                have e89 := hin.is 21 89 (by kernel_rfl) (by decide) (by kernel_rfl) (by kernel_rfl) _ rfl
                exact does_pick rfl e75 ⟨Same.refl _, eval_of_get e89⟩
              refine allp_mild 0 rfl rfl rfl (fun a x W hout hin hP => ?_) ?_
              · have e90 := hin.is 22 90 (by kernel_rfl) (by decide) (by kernel_rfl) (by kernel_rfl) _ rfl
                exact does_move rfl e90 ⟨Same.refl _, rfl⟩
              refine allp_mild 0 rfl rfl rfl (fun a x W hout hin hP => ?_) ?_
              · have e3 : a.tmps[3]? = some (.slice (some ⟨gb, 0, none⟩) 46 cb) := (hout 3 (by kernel_rfl)).trans rfl
                exact does_move rfl e3 ⟨Same.refl _, rfl⟩
              refine allp_mild 0 rfl rfl rfl (fun a x W hout hin hP => ?_) ?_
              · have e5 : a.tmps[5]? = some (.int .i64 (k : Int)) := (hout 5 (by kernel_rfl)).trans rfl
                exact does_move rfl e5 ⟨Same.refl _, rfl⟩
              refine allp_mild 0 rfl rfl rfl (fun a x W hout hin hP => ?_) ?_
              · have e93 := hin.is 25 93 (by kernel_rfl) (by decide) (by kernel_rfl) (by kernel_rfl) _ rfl
                have hw := HK10.out
                clear hin hout
                intro K Q hK
                go_simp
                exact hK _ _ ⟨Same.refl _, rfl⟩
              refine allp_mild 0 rfl rfl rfl (fun a x W hout hin hP => ?_) ?_
              · have e92 := hin.is 24 92 (by kernel_rfl) (by decide) (by kernel_rfl) (by kernel_rfl) _ rfl
                have e94 := hin.is 26 94 (by kernel_rfl) (by decide) (by kernel_rfl) (by kernel_rfl) _ rfl
                clear hin hout
                intro K Q hK
                go_simp
                exact hK _ _ ⟨Same.refl _, rfl⟩
              refine allp_mild 0 rfl rfl rfl (fun a x W hout hin hP => ?_) ?_
              · have e95 := hin.is 27 95 (by kernel_rfl) (by decide) (by kernel_rfl) (by kernel_rfl) _ rfl
                have hc : W.cell? ⟨gb, k10, none⟩ = some (.int .u8 (bd y10)) := by have h := hP.2.2.get k10 (by rw [HBL.out]; have := H46.out; omega); rw [Nat.zero_add, HV10.out] at h; exact h
                clear hP
                clear hin hout
                intro K Q hK
                go_simp
                exact hK _ _ ⟨Same.refl _, rfl⟩
              refine allp_mild 0 rfl rfl rfl (fun a x W hout hin hP => ?_) ?_
              · have e1 : a.tmps[1]? = some (.pointer (some ⟨g1, 0, none⟩)) := (hout 1 (by kernel_rfl)).trans rfl
                clear hin hout
                intro K Q hK
                go_simp
                exact hK _ _ ⟨Same.refl _, rfl⟩
              refine allp_mild 0 rfl rfl rfl (fun a x W hout hin hP => ?_) ?_
              · have e97 := hin.is 29 97 (by kernel_rfl) (by decide) (by kernel_rfl) (by kernel_rfl) _ rfl
                clear hin hout
                intro K Q hK
                go_simp
                exact hK _ _ ⟨Same.refl _, rfl⟩
              refine allp_mild 0 rfl rfl rfl (fun a x W hout hin hP => ?_) ?_
              · have e98 := hin.is 30 98 (by kernel_rfl) (by decide) (by kernel_rfl) (by kernel_rfl) _ rfl
                have hc : W.cell? ⟨g1, 4, none⟩ = some (.int .u32 (wd c.g)) := hP.2.1.get (tok_get _ _ rfl)
                clear hP
                clear hin hout
                intro K Q hK
                go_simp
                exact hK _ _ ⟨Same.refl _, rfl⟩
              refine allp_mild 0 rfl rfl rfl (fun a x W hout hin hP => ?_) ?_
              · have e5 : a.tmps[5]? = some (.int .i64 (k : Int)) := (hout 5 (by kernel_rfl)).trans rfl
                exact does_move rfl e5 ⟨Same.refl _, rfl⟩
              refine allp_mild 0 rfl rfl rfl (fun a x W hout hin hP => ?_) ?_
              · have e100 := hin.is 32 100 (by kernel_rfl) (by decide) (by kernel_rfl) (by kernel_rfl) _ rfl
                have hw := HS8.out
                clear hin hout
                intro K Q hK
                go_simp
                exact hK _ _ ⟨Same.refl _, rfl⟩
              refine allp_mild 0 rfl rfl rfl (fun a x W hout hin hP => ?_) ?_
              · have e101 := hin.is 33 101 (by kernel_rfl) (by decide) (by kernel_rfl) (by kernel_rfl) _ rfl
                have hw := HS8U.out
                clear hin hout
                intro K Q hK
                go_simp
                exact hK _ _ ⟨Same.refl _, rfl⟩
              refine allp_mild 0 rfl rfl rfl (fun a x W hout hin hP => ?_) ?_
              · have e99 := hin.is 31 99 (by kernel_rfl) (by decide) (by kernel_rfl) (by kernel_rfl) _ rfl
                have e102 := hin.is 34 102 (by kernel_rfl) (by decide) (by kernel_rfl) (by kernel_rfl) _ rfl
                have hw := HSH2.out
                clear hin hout
                intro K Q hK
                go_simp
                exact hK _ _ ⟨Same.refl _, rfl⟩
              refine allp_mild 0 rfl rfl rfl (fun a x W hout hin hP => ?_) ?_
              · have e103 := hin.is 35 103 (by kernel_rfl) (by decide) (by kernel_rfl) (by kernel_rfl) _ rfl
                have hw := HY10.out
                clear hin hout
                intro K Q hK
                go_simp
                exact hK _ _ ⟨Same.refl _, rfl⟩
              refine allp_mild 0 rfl rfl rfl (fun a x W hout hin hP => ?_) ?_
              · have e96 := hin.is 28 96 (by kernel_rfl) (by decide) (by kernel_rfl) (by kernel_rfl) _ rfl
                have e104 := hin.is 36 104 (by kernel_rfl) (by decide) (by kernel_rfl) (by kernel_rfl) _ rfl
                clear hin hout
                intro K Q hK
                go_simp
                exact hK _ _ ⟨Same.refl _, rfl⟩
              refine allp_mild 0 rfl rfl rfl (fun a x W hout hin hP => ?_) ?_
              · have e91 := hin.is 23 91 (by kernel_rfl) (by decide) (by kernel_rfl) (by kernel_rfl) _ rfl
                have e105 := hin.is 37 105 (by kernel_rfl) (by decide) (by kernel_rfl) (by kernel_rfl) _ rfl
                exact does_pick rfl e91 ⟨Same.refl _, eval_of_get e105⟩
              exact all_end (by decide)
            · intro x W hP hV
              have hx : x 38 = .bool false := hV 38 (by decide) (.inl (by kernel_rfl))
              have HBT := Lib.hid hP.1
              have HR1 := Lib.hid hP.2.1
              have HBA := Lib.hid hP.2.2
              clear hV hP
              simp only [putL, Act.put, List.setIfInBounds_toArray, List.set_cons_succ, List.set_cons_zero, hx]
              simp only [Nat.zero_add, Nat.reduceAdd]
              refine wpAnyH_done (by kernel_rfl) ?_ _
              clear hx
              go_wp2_with fail
              exact ⟨⟨k + 1, by omega, by go_num, HBT.out, HR1.out, HBA.out⟩, by simp [intOf]; omega⟩
        · have hkd : decide ((k : Int) < 4) = false := decide_eq_false (by omega)
          go_upto_region 16 with fail
          have hF0 : Wl [fun W => Below w.heap.size w W ∧ Row W g1 28 (tokCells c tg) ∧ BAt W gb 0 B] 0 wr.drew := ⟨HBT.out.trans ((Below.refl _ _).drew.mono HBT.out.size), HR1.out.call (Below.refl _ _).drew, HBA.out.call (Below.refl _ _).drew⟩
          clear HBT HR1 HBA
          refine wp_region_phs [is (.slice (some ⟨gb, 0, none⟩) 46 cb), is (.slice (some ⟨gb, 14, none⟩) 32 (cb - 14)), is (.pointer (some ⟨g1, 5, none⟩)), is (.slice (some ⟨g1, 5, none⟩) 32 32), is (.bool true), is (.bool true), is (.bool true), is (.bool true), is (.bool true)] [true, true, true, true, true, true, true, true, true] [(fun W => Below w.heap.size w W ∧ Row W g1 28 (tokCells c tg) ∧ BAt W gb 0 B)] [false, false, false, false, false, false, false, false, false] [some 0, some 0, some 0, some 0, some 0, some 0, some 0, some 0, some 0] [some 107, some 108, some 109, some 110, some 111, some 112, some 113, some 114, some 2] 9 0 (fun _ => true) rfl rfl (by kernel_rfl) (by kernel_rfl) (by kernel_rfl) (by kernel_rfl) ?_ ?_ ?_ ?_ ?_ ?_
          · repeat first | exact wok_nil | refine wok_cons (by first | exact fun _ _ h k => ⟨h.1.trans (k.mono h.1.size), h.2.1.call k, h.2.2.call k⟩) ?_
          · repeat first | exact vok_nil | refine vok_rig (by first | exact fun _ _ _ h => h) ?_ | refine vok_soft (by first | exact fun _ _ _ h _ => h) ?_
          · exact hF0
          · repeat first | exact all_end (by decide) | refine all_cons (by first | exact rfl | exact ⟨rfl, fun _ _ h => Or.inl h⟩ | exact ⟨rfl, fun _ _ h => Or.inr ⟨h, rfl⟩⟩) ?_
          · refine allp_mild 0 rfl rfl rfl (fun a x W hout hin hP => ?_) ?_
            · have e3 : a.tmps[3]? = some (.slice (some ⟨gb, 0, none⟩) 46 cb) := (hout 3 (by kernel_rfl)).trans rfl
              exact does_move rfl e3 ⟨Same.refl _, rfl⟩
            refine allp_mild 0 rfl rfl rfl (fun a x W hout hin hP => ?_) ?_
            · have e107 := hin.is 0 107 (by kernel_rfl) (by decide) (by kernel_rfl) (by kernel_rfl) _ rfl
              have k1 := HCB.out
              have k2 : (46 : Int) ≤ (cb : Int) := by omega
              have k3 : ¬ cb = 14 := by omega
              have k4 : 14 ≤ cb := by omega
              have k5 : (14 : Int) ≤ (cb : Int) := by omega
              clear hin hout
              intro K Q hK
              go_simp
              exact hK _ _ ⟨Same.refl _, rfl⟩
            refine allp_mild 0 rfl rfl rfl (fun a x W hout hin hP => ?_) ?_
            · have e1 : a.tmps[1]? = some (.pointer (some ⟨g1, 0, none⟩)) := (hout 1 (by kernel_rfl)).trans rfl
              clear hin hout
              intro K Q hK
              go_simp
              exact hK _ _ ⟨Same.refl _, rfl⟩
            refine allp_mild 0 rfl rfl rfl (fun a x W hout hin hP => ?_) ?_
            · have e109 := hin.is 2 109 (by kernel_rfl) (by decide) (by kernel_rfl) (by kernel_rfl) _ rfl
              clear hin hout
              intro K Q hK
              go_simp
              exact hK _ _ ⟨Same.refl _, rfl⟩
            refine allp_mild 0 rfl rfl rfl (fun a x W hout hin hP => ?_) ?_
            · have e108 := hin.is 1 108 (by kernel_rfl) (by decide) (by kernel_rfl) (by kernel_rfl) _ rfl
              have e110 := hin.is 3 110 (by kernel_rfl) (by decide) (by kernel_rfl) (by kernel_rfl) _ rfl
              have C := keepb_any _ _ tg tg W (HTGS.out W hP.2.2) (tok_slice hP.2.1 HTL.out)
              rw [decide_eq_true (rfl : tg = tg)] at C
              clear hP
              clear hin hout
              intro K Q hK
              go_simp
              refine C.mono ?_
              rintro e W' ⟨rfl, rfl⟩
              exact hK _ _ ⟨Same.refl _, rfl⟩
            refine allp_mild 0 rfl rfl rfl (fun a x W hout hin hP => ?_) ?_
            · have e111 := hin.is 4 111 (by kernel_rfl) (by decide) (by kernel_rfl) (by kernel_rfl) _ rfl
              exact does_move rfl e111 ⟨Same.refl _, rfl⟩
            refine allp_mild 0 rfl rfl rfl (fun a x W hout hin hP => ?_) ?_
            · have C := tkwakes_any W
              clear hP
              clear hin hout
              intro K Q hK
              go_simp
              refine C.mono ?_
              rintro e W' ⟨rfl, hb⟩
              exact hK _ _ ⟨hb, rfl⟩
            refine allp_mild 0 rfl rfl rfl (fun a x W hout hin hP => ?_) ?_
            · have e112 := hin.is 5 112 (by kernel_rfl) (by decide) (by kernel_rfl) (by kernel_rfl) _ rfl
              have e113 := hin.is 6 113 (by kernel_rfl) (by decide) (by kernel_rfl) (by kernel_rfl) _ rfl
              exact does_pick rfl e112 ⟨Same.refl _, eval_of_get e113⟩
            refine allp_mild 0 rfl rfl rfl (fun a x W hout hin hP => ?_) ?_
            · have e114 := hin.is 7 114 (by kernel_rfl) (by decide) (by kernel_rfl) (by kernel_rfl) _ rfl
              exact does_assign rfl e114 ⟨Same.refl _, rfl⟩
            exact all_end (by decide)
          · intro x W hP hV
            have hx : x 8 = .bool true := hV 8 (by decide) (.inl (by kernel_rfl))
            have HBT := Lib.hid hP.1
            clear hV hP
            simp only [putL, Act.put, List.setIfInBounds_toArray, List.set_cons_succ, List.set_cons_zero, hx]
            simp only [Nat.zero_add, Nat.reduceAdd]
            refine wpAnyH_done (by kernel_rfl) ?_ _
            clear hx
            go_wp2_with fail
            go_ret
            exact ⟨rfl, HBT.out⟩
end Go.Proofs.YteidjbbhhfdcpaaDoor
