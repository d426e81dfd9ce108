/- The statement TokenBack: its walk. -/
import Derived.Test.YteidjbbhhfdcpaaDoorTokWakes
set_option maxRecDepth 4000
namespace Go.Proofs.YteidjbbhhfdcpaaDoor
open Go Go.RowKit
attribute [local go_sem] strB_size
set_option maxRecDepth 20000 in
set_option maxHeartbeats 3200000 in
theorem tkback_walk (c : Clm) (tg : List (BitVec 8)) (c2 : Clm) (tg2 : List (BitVec 8)) (A : Option Addr) (cq : Nat) (q : List (BitVec 8)) (w : World) (ht : tg.length = 32) (hm : c.n.length ≤ maxLen) (ht2 : tg2.length = 32) (hm2 : c2.n.length ≤ maxLen) (hq : Slice w (.slice A q.length cq) q) (_ : A = none → cq = 0) (_ : q.length ≤ maxLen) :
    Calls Tryd.prog 4 #[.agg (tokCells c tg), .agg (tokCells c2 tg2), .slice A q.length cq] w fun e w' => e = .returned (.bool true) ∧ Below w.heap.size w w' := by
  have HTS := Lib.hid (tok_size c tg ht)
  have HTZ : Hid ((Tryd.prog.info? 28).map (·.size) = some (tokCells c tg).size) := Lib.hid (by rw [HTS.out]; exact size_tok)
  have HTS2 := Lib.hid (tok_size c2 tg2 ht2)
  have HTZ2 : Hid ((Tryd.prog.info? 28).map (·.size) = some (tokCells c2 tg2).size) := Lib.hid (by rw [HTS2.out]; exact size_tok)
  have HTL := Lib.hid ht
  have HTL2 := Lib.hid ht2
  have HM := Lib.hid hm
  have HM2 := Lib.hid hm2
  obtain ⟨nq, hnq⟩ : ∃ nq, q.length = nq := ⟨_, rfl⟩
  rw [hnq] at hq ⊢
  have HQ := Lib.hid hq
  have HDQ : Hid (∀ W, Slice W (.slice A nq cq) q → Calls Tryd.prog 12 #[.slice A nq cq] W fun e w' => e = .returned (.tuple #[.agg (tokCells (decC q) (decG q)), .int .i64 (decT q)]) ∧ Below W.heap.size W w') := Lib.hid (fun W hs => tokdec_any A cq q nq hnq W hs)
  have HTAIL : Hid ((decT q = 0 ∧ ∀ W, Calls Tryd.prog 8 #[.agg (tokCells (decC q) (decG q))] W fun e w' => ∃ v, e = .returned (.tuple #[v, .int .i64 0]) ∧ Slice w' v q ∧ Below W.heap.size W w') ∨ (decT q = 11 ∧ decC q = clm0 ∧ decG q = zer 32)) := Lib.hid (by
    cases hk : tokOk q with
    | false => exact .inr ⟨by unfold decT; rw [hk]; rfl, by unfold decC; rw [hk]; rfl, by unfold decG; rw [hk]; rfl⟩
    | true =>
      refine .inl ⟨by unfold decT; rw [hk]; rfl, fun W => ?_⟩
      have h1 : decC q = clmQ q := by unfold decC; rw [hk]; rfl
      have h2 : decG q = q.drop 14 := by unfold decG; rw [hk]; rfl
      rw [h1, h2]
      have hmq := (tok_ok hk).2.2
      refine (tokenc_good (clmQ q) (q.drop 14) W (by rw [List.length_drop, (tok_ok hk).1]) (by have := may_len hmq; unfold maxLen; omega) hmq).mono ?_
      rintro e w' ⟨v, rfl, ho, hb⟩
      rw [tok_forth hk] at ho
      exact ⟨v, rfl, own_slice ho, hb⟩)
  have HGL : Hid ((decG q).length = 32) := Lib.hid (length_decG q)
  generalize decC q = X at *
  generalize decG q = G at *
  generalize decT q = E at *
  obtain ⟨nl, hnl⟩ : ∃ nl, c.n.length = nl := ⟨_, rfl⟩
  obtain ⟨nl2, hnl2⟩ : ∃ nl, c2.n.length = nl := ⟨_, rfl⟩
  clear hm ht hm2 ht2 hq hnq
  have HS := St.nil w noF
  by_cases hfair : 100 < nl ∨ 100 < nl2 ∨ 500 < nq
  · go_enter Tryd.func4, Tryd.ntmps4
    go_upto_region 1 with (first | ((with_reducible refine wpList_plain ?_ ?_); exact rfl; intro KK hKK; refine wp_st_box HS 28 (.tmp 0) rfl _ rfl (tokCells c tg) (rfl) (fun g3 W1 HSx => hKK _ _ ?_); clear hKK KK HS; have HS : St w noF [⟨g3, 28, tokCells c tg⟩] W1 := HSx; clear HSx) | ((with_reducible refine wpList_plain ?_ ?_); exact rfl; intro KK hKK; refine wp_st_box HS 28 (.tmp 1) rfl _ rfl (tokCells c2 tg2) (rfl) (fun g4 W2 HSx => hKK _ _ ?_); clear hKK KK HS; have HS : St w noF [⟨g3, 28, tokCells c tg⟩, ⟨g4, 28, tokCells c2 tg2⟩] W2 := HSx; clear HSx))
    have c1 : W2.cell? ⟨g3, 1, none⟩ = some (.string (strB c.n)) := (HS.row 0 rfl).get (tok_get _ _ rfl)
    have c2' : W2.cell? ⟨g4, 1, none⟩ = some (.string (strB c2.n)) := (HS.row 1 rfl).get (tok_get _ _ rfl)
    by_cases h1 : 100 < nl
    · have d1 : decide (100 < (nl : Int)) = true := decide_eq_true (by omega)
      go_wp2_with fail
      refine (tkwakes_any W2).mono ?_
      rintro e w99 ⟨rfl, hb⟩
      go_wp2_with fail
      go_ret
      exact ⟨rfl, HS.below.trans (hb.mono HS.below.size)⟩
    have d1 : decide (100 < (nl : Int)) = false := decide_eq_false (by omega)
    by_cases h2 : 100 < nl2
    · have d2 : decide (100 < (nl2 : Int)) = true := decide_eq_true (by omega)
      go_wp2_with fail
      refine (tkwakes_any W2).mono ?_
      rintro e w99 ⟨rfl, hb⟩
      go_wp2_with fail
      go_ret
      exact ⟨rfl, HS.below.trans (hb.mono HS.below.size)⟩
    have d2 : decide (100 < (nl2 : Int)) = false := decide_eq_false (by omega)
    have h3 : 500 < nq := by omega
    have d3 : decide (500 < (nq : Int)) = true := decide_eq_true (by omega)
    go_wp2_with fail
    refine (tkwakes_any W2).mono ?_
    rintro e w99 ⟨rfl, hb⟩
    go_wp2_with fail
    go_ret
    exact ⟨rfl, HS.below.trans (hb.mono HS.below.size)⟩
  have h1 : ¬ 100 < nl := by omega
  have h2 : ¬ 100 < nl2 := by omega
  have h3 : ¬ 500 < nq := by omega
  have d1 : decide (100 < (nl : Int)) = false := decide_eq_false (by omega)
  have d2 : decide (100 < (nl2 : Int)) = false := decide_eq_false (by omega)
  have d3 : decide (500 < (nq : Int)) = false := decide_eq_false (by omega)
  cases hc : mayC c with
  | false =>
    have HE := Lib.hid (fun w => tokenc_bad c tg w HM.out hc)
    have HE2 : Hid (∀ W, Calls Tryd.prog 8 #[.agg (tokCells c2 tg2)] W fun e w' => ∃ v f, e = .returned (.tuple #[v, .int .i64 f]) ∧ Below W.heap.size W w') := Lib.hid fun W => by
      cases hc2 : mayC c2 with
      | false =>
        refine (tokenc_bad c2 tg2 W HM2.out hc2).mono ?_
        rintro e w' ⟨rfl, hb⟩
        exact ⟨_, _, rfl, hb⟩
      | true =>
        refine (tokenc_good c2 tg2 W HTL2.out HM2.out hc2).mono ?_
        rintro e w' ⟨v, rfl, _, hb⟩
        exact ⟨_, _, rfl, hb⟩
    clear hc hfair
    go_enter Tryd.func4, Tryd.ntmps4
    go_upto_region 1 with (first | ((with_reducible refine wpList_plain ?_ ?_); exact rfl; intro KK hKK; refine wp_st_box HS 28 (.tmp 0) rfl _ rfl (tokCells c tg) (rfl) (fun g3 W1 HSx => hKK _ _ ?_); clear hKK KK HS; have HS : St w noF [⟨g3, 28, tokCells c tg⟩] W1 := HSx; clear HSx) | ((with_reducible refine wpList_plain ?_ ?_); exact rfl; intro KK hKK; refine wp_st_box HS 28 (.tmp 1) rfl _ rfl (tokCells c2 tg2) (rfl) (fun g4 W2 HSx => hKK _ _ ?_); clear hKK KK HS; have HS : St w noF [⟨g3, 28, tokCells c tg⟩, ⟨g4, 28, tokCells c2 tg2⟩] W2 := HSx; clear HSx))
    have c1 : W2.cell? ⟨g3, 1, none⟩ = some (.string (strB c.n)) := (HS.row 0 rfl).get (tok_get _ _ rfl)
    have c2' : W2.cell? ⟨g4, 1, none⟩ = some (.string (strB c2.n)) := (HS.row 1 rfl).get (tok_get _ _ rfl)
    go_upto_region 3 with fail
    clear c1 c2' h1 h2 h3 d1 d2 d3 hnl hnl2
    go_wp2_with (first | ((with_reducible refine wpList_plain ?_ ?_); exact rfl; intro KK hKK; refine wp_st_load HS 0 0 28 (.tmp 3) rfl rfl rfl (tokCells c tg) (slab_whole _) _ Tryd.underlying28 rfl (by exact HTZ.out) (hKK _ _ ?_); clear hKK KK))
    refine (HE.out _).mono ?_
    rintro e w1 ⟨rfl, hb⟩
    have HSx := HS.same hb
    clear HS hb HE
    have HS := HSx
    clear HSx
    go_wp2_with (first | ((with_reducible refine wpList_plain ?_ ?_); exact rfl; intro KK hKK; refine wp_st_load HS 1 0 28 (.tmp 4) rfl rfl rfl (tokCells c2 tg2) (slab_whole _) _ Tryd.underlying28 rfl (by exact HTZ2.out) (hKK _ _ ?_); clear hKK KK))
    refine (HE2.out _).mono ?_
    rintro e w2 ⟨y, f, rfl, hb⟩
    have HBx := HS.below.trans (hb.mono HS.below.size)
    clear HS hb HE2
    go_upto_region 9 with fail
    have hF0 : Wl [fun W => Below w.heap.size w W] 0 w2.drew := HBx.trans ((Below.refl _ _).drew.mono HBx.size)
    clear HBx
    refine wp_region_phs [is (.int .i64 11), is (.bool false), is (.bool false), is undef, is undef, is (.bool false), is (.bool false), is undef, is undef, is undef, is undef, is undef, is undef, is undef, is (.bool false)] [true, true, true, true, true, true, true, true, true, true, true, true, true, true, true] [(fun W => Below w.heap.size w W)] [false, false, false, false, false, false, false, false, false, false, false, false, false, false, false] [some 0, some 0, some 0, some 0, some 0, some 0, some 0, some 0, some 0, some 0, some 0, some 0, some 0, some 0, some 0] [some 59, some 60, some 61, some 62, some 63, some 64, some 65, some 66, some 67, some 68, some 69, some 70, some 71, some 72, some 73] 15 0 (fun i => !([3, 4, 7, 8, 9, 10, 11, 12, 13] : List Nat).contains i) rfl rfl (by kernel_rfl) (by kernel_rfl) (by kernel_rfl) (by kernel_rfl) ?_ ?_ ?_ ?_ ?_ ?_
    · repeat first | exact wok_nil | refine wok_cons (by first | exact fun _ _ h k => h.trans (k.mono h.size)) ?_
    · repeat first | exact vok_nil | refine vok_rig (by first | exact fun _ _ _ h => h) ?_ | refine vok_soft (by first | exact fun _ _ _ h _ => h) ?_
    · exact hF0
    · repeat first | exact all_end (by decide) | refine all_cons (by first | exact rfl | exact ⟨rfl, fun _ _ h => Or.inl h⟩ | exact ⟨rfl, fun _ _ h => Or.inr ⟨h, rfl⟩⟩) ?_
    · refine allp_mild 0 rfl rfl rfl (fun a x W hout hin hP => ?_) ?_
      · have e8 : a.tmps[8]? = some (.int .i64 11) := (hout 8 (by kernel_rfl)).trans rfl
        exact does_move rfl e8 ⟨Same.refl _, rfl⟩
      refine allp_mild 0 rfl rfl rfl (fun a x W hout hin hP => ?_) ?_
      · have e59 := hin.is 0 59 (by kernel_rfl) (by decide) (by kernel_rfl) (by kernel_rfl) _ rfl
        clear hin hout
        intro K Q hK
        go_simp
        exact hK _ _ ⟨Same.refl _, rfl⟩
      refine allp_mild 0 rfl rfl rfl (fun a x W hout hin hP => ?_) ?_
      · have e60 := hin.is 1 60 (by kernel_rfl) (by decide) (by kernel_rfl) (by kernel_rfl) _ rfl
        exact does_move rfl e60 ⟨Same.refl _, rfl⟩
      refine allp_skip rfl rfl (fun _ => rfl) ?_
      refine allp_skip rfl rfl (fun _ => rfl) ?_
      refine allp_mild 0 rfl rfl rfl (fun a x W hout hin hP => ?_) ?_
      · have e61 := hin.is 2 61 (by kernel_rfl) (by decide) (by kernel_rfl) (by kernel_rfl) _ rfl
        have e63 := hin.is 4 63 (by kernel_rfl) (by decide) (by kernel_rfl) (by kernel_rfl) _ rfl
        exact does_pick rfl e61 ⟨Same.refl _, rfl⟩
      refine allp_mild 0 rfl rfl rfl (fun a x W hout hin hP => ?_) ?_
      · have e64 := hin.is 5 64 (by kernel_rfl) (by decide) (by kernel_rfl) (by kernel_rfl) _ rfl
        exact does_move rfl e64 ⟨Same.refl _, rfl⟩
      refine allp_skip rfl rfl (fun _ => rfl) ?_
      refine allp_skip rfl rfl (fun _ => rfl) ?_
      refine allp_skip rfl rfl (fun _ => rfl) ?_
      refine allp_skip rfl rfl (fun _ => rfl) ?_
      refine allp_skip rfl rfl (fun _ => rfl) ?_
      refine allp_skip rfl rfl (fun _ => rfl) ?_
      refine allp_skip rfl rfl (fun _ => rfl) ?_
      refine allp_mild 0 rfl rfl rfl (fun a x W hout hin hP => ?_) ?_
      · have e65 := hin.is 6 65 (by kernel_rfl) (by decide) (by kernel_rfl) (by kernel_rfl) _ rfl
        have e72 := hin.is 13 72 (by kernel_rfl) (by decide) (by kernel_rfl) (by kernel_rfl) _ rfl
        exact does_pick rfl e65 ⟨Same.refl _, rfl⟩
      exact all_end (by decide)
    · intro x W hP hV
      have h14 : x 14 = .bool false := hV 14 (by decide) (.inl (by kernel_rfl))
      have HBT := Lib.hid (hP)
      clear hV hP
      simp only [putL, Act.put, List.setIfInBounds_toArray, List.set_cons_succ, List.set_cons_zero, h14]
      simp only [Nat.zero_add, Nat.reduceAdd]
      refine wpAnyH_done (by kernel_rfl) ?_ _
      clear h14
      have hsb := HQ.out.below HBT.out (Nat.le_refl _)
      have HT := St.nil W noF
      go_wp2_with fail
      refine (HDQ.out W hsb).mono ?_
      rintro e v1 ⟨rfl, hb⟩
      have HTx := HT.same hb
      clear HT hb hsb
      have HT := HTx
      clear HTx
      go_upto_region 12 with (first | ((with_reducible refine wpList_plain ?_ ?_); exact rfl; intro KK hKK; refine wp_st_alloc HT 28 (tokCells clm0 (zer 32)) rfl (.agg (tokCells clm0 (zer 32))) (by exact zero_tok) (rfl) (fun g13 W61 HSx => hKK _ _ ?_); clear hKK KK HT; have HT : St W noF [⟨g13, 28, tokCells clm0 (zer 32)⟩] W61 := HSx; clear HSx) | ((with_reducible refine wpList_plain ?_ ?_); exact rfl; intro KK hKK; refine wp_st_store HT 0 0 28 (.tmp 13) (.tmp 77) rfl rfl rfl (.agg (tokCells X G)) rfl (by rw [show Value.cells (.agg (tokCells X G)) = tokCells X G from rfl, tok_size _ _ HGL.out]; exact size_tok) (by rw [Nat.zero_add, show Value.cells (.agg (tokCells X G)) = tokCells X G from rfl, tok_size _ _ HGL.out, tok_size _ _ (length_zer 32)]; exact Nat.le_refl 37) (by exact one_tok _ _) (tokCells X G) (spl_agg _ _ _ rfl (by rw [tok_size _ _ HGL.out, tok_size _ _ (length_zer 32)])) (fun W62 HSx => hKK _ _ ?_); clear hKK KK HT; have HT : St W noF [⟨g13, 28, tokCells X G⟩] W62 := HSx; clear HSx))
      have HR13 : Hid (Row W62 g13 28 (tokCells X G)) := Lib.hid (HT.row 0 rfl)
      have HB13 := Lib.hid (HBT.out.trans (HT.below.mono HBT.out.size))
      clear HT HBT
      rcases HTAIL.out with ⟨hE, hen⟩ | ⟨hE, hX, hG⟩
      · subst hE
        go_wp2_with (first | ((with_reducible refine wpList_plain ?_ ?_); exact rfl; intro KK hKK; refine wp_load_row 28 (.tmp 13) rfl g13 rfl 28 (tokCells X G) (0, 0) _ HR13.out Tryd.underlying28 rfl (by rw [tok_size _ _ HGL.out]; exact size_tok) (hKK _ _ ?_); clear hKK KK))
        refine (hen W62).mono ?_
        rintro e v2 ⟨vz, rfl, hz, hb⟩
        have HB14 := Lib.hid (HB13.out.trans (hb.mono HB13.out.size))
        have hs2 := HQ.out.below HB14.out (Nat.le_refl _)
        clear hb hen
        go_wp2_with fail
        refine (keepb_any vz _ q q v2 hz hs2).mono ?_
        rintro e v3 ⟨rfl, rfl⟩
        rw [decide_eq_true (rfl : q = q)]
        clear hz hs2
        go_wp2_with fail
        refine (tkwakes_any v2).mono ?_
        rintro e w99 ⟨rfl, hb⟩
        go_wp2_with fail
        go_ret
        exact ⟨rfl, HB14.out.trans (hb.mono HB14.out.size)⟩
      · subst hE
        subst hX
        subst hG
        have q9 : ∀ w, (Op.equalIn 10000 28 (.agg (tokCells clm0 (zer 32))) (.agg (tokCells clm0 (zer 32)))).run Tryd.prog w = .ok true w := fun w => by
          have := eql_tok clm0 clm0 (zer 32) (zer 32) (length_zer 32) (length_zer 32) w
          rwa [decide_eq_true ⟨rfl, rfl⟩] at this
        go_wp2_with (first | ((with_reducible refine wpList_plain ?_ ?_); exact rfl; intro KK hKK; refine wp_load_row 28 (.tmp 13) rfl g13 rfl 28 (tokCells clm0 (zer 32)) (0, 0) _ HR13.out Tryd.underlying28 rfl (by exact size_tok) (hKK _ _ ?_); clear hKK KK) | ((with_reducible refine wplG_build0 28 (tokCells clm0 (zer 32)) ?_ built_tok0 ?_); exact rfl))
        refine (tkwakes_any W62).mono ?_
        rintro e w99 ⟨rfl, hb⟩
        go_wp2_with fail
        go_ret
        exact ⟨rfl, HB13.out.trans (hb.mono HB13.out.size)⟩
  | true =>
    have HE := Lib.hid (fun w => tokenc_good c tg w HTL.out HM.out hc)
    obtain ⟨B, hB⟩ : ∃ B, clmB c ++ tg = B := ⟨_, rfl⟩
    have HBL : Hid (B.length = 46) := Lib.hid (by rw [← hB, List.length_append, length_clmB, HTL.out])
    have HDB : Hid (∀ A cc w, Slice w (.slice A 46 cc) B → Calls Tryd.prog 12 #[.slice A 46 cc] w fun e w' => e = .returned (.tuple #[.agg (tokCells c tg), .int .i64 0]) ∧ Below w.heap.size w w') := Lib.hid (fun A cc w hs => by
      have := tokdec_any A cc B 46 HBL.out w hs
      rw [← hB, (dec_tok hc HTL.out).1, (dec_tok hc HTL.out).2.1, (dec_tok hc HTL.out).2.2] at this
      exact this)
    rw [hB] at HE
    have q7 : ∀ w, (Op.equalIn 10000 28 (.agg (tokCells c tg)) (.agg (tokCells c tg))).run Tryd.prog w = .ok true w := fun w => by
      have := eql_tok c c tg tg HTL.out HTL.out w
      rwa [decide_eq_true ⟨rfl, rfl⟩] at this
    cases hc2 : mayC c2 with
    | false =>
      have HE2 := Lib.hid (fun w => tokenc_bad c2 tg2 w HM2.out hc2)
      obtain ⟨f, hf⟩ : ∃ f : Int, f = 11 := ⟨_, rfl⟩
      rw [← hf] at HE2
      have HF : (f == 0) = false := by rw [hf]; rfl
      clear hc hc2 hB hfair hf
      go_enter Tryd.func4, Tryd.ntmps4
      go_upto_region 1 with (first | ((with_reducible refine wpList_plain ?_ ?_); exact rfl; intro KK hKK; refine wp_st_box HS 28 (.tmp 0) rfl _ rfl (tokCells c tg) (rfl) (fun g3 W1 HSx => hKK _ _ ?_); clear hKK KK HS; have HS : St w noF [⟨g3, 28, tokCells c tg⟩] W1 := HSx; clear HSx) | ((with_reducible refine wpList_plain ?_ ?_); exact rfl; intro KK hKK; refine wp_st_box HS 28 (.tmp 1) rfl _ rfl (tokCells c2 tg2) (rfl) (fun g4 W2 HSx => hKK _ _ ?_); clear hKK KK HS; have HS : St w noF [⟨g3, 28, tokCells c tg⟩, ⟨g4, 28, tokCells c2 tg2⟩] W2 := HSx; clear HSx))
      have c1 : W2.cell? ⟨g3, 1, none⟩ = some (.string (strB c.n)) := (HS.row 0 rfl).get (tok_get _ _ rfl)
      have c2' : W2.cell? ⟨g4, 1, none⟩ = some (.string (strB c2.n)) := (HS.row 1 rfl).get (tok_get _ _ rfl)
      go_upto_region 3 with fail
      clear c1 c2' h1 h2 h3 d1 d2 d3 hnl hnl2
      go_wp2_with (first | ((with_reducible refine wpList_plain ?_ ?_); exact rfl; intro KK hKK; refine wp_st_load HS 0 0 28 (.tmp 3) rfl rfl rfl (tokCells c tg) (slab_whole _) _ Tryd.underlying28 rfl (by exact HTZ.out) (hKK _ _ ?_); clear hKK KK))
      refine (HE.out _).mono ?_
      rintro e w1 ⟨v1, rfl, ho, hb⟩
      have HSx := HS.same hb
      clear HS hb HE
      have HS := HSx
      clear HSx
      obtain ⟨gx, cx, curx, rfl, _, hrx, hcx, htx⟩ := own_row ho (by rw [HBL.out]; decide)
      have HBX0 : Hid (BAt w1 gx 0 B) := Lib.hid (slice_at (row_pre (q := B) hrx htx hcx) (by rw [HBL.out]; decide))
      rw [HBL.out] at hcx ⊢
      have HCX : Hid (46 ≤ cx) := Lib.hid hcx
      clear ho hrx hcx htx
      go_wp2_with (first | ((with_reducible refine wpList_plain ?_ ?_); exact rfl; intro KK hKK; refine wp_st_load HS 1 0 28 (.tmp 4) rfl rfl rfl (tokCells c2 tg2) (slab_whole _) _ Tryd.underlying28 rfl (by exact HTZ2.out) (hKK _ _ ?_); clear hKK KK))
      refine (HE2.out _).mono ?_
      rintro e w2 ⟨rfl, hb⟩
      have HBXx := HBX0.out.call hb
      have HSx := HS.same hb
      have HR3x : Row w2 g3 28 (tokCells c tg) := HSx.row 0 rfl
      have HR4x : Row w2 g4 28 (tokCells c2 tg2) := HSx.row 1 rfl
      have HBx := HSx.below
      have hbb := Below.refl w2.heap.size w2
      have HT := St.nil w2 noF
      clear HS hb HSx HBX0
      go_wp2_with fail
      refine (HDB.out _ _ w2 (HBXx.slice HBL.out HCX.out)).mono ?_
      rintro e w3 ⟨rfl, hb⟩
      have HTx := HT.same hb
      clear HT hb HDB
      have HT := HTx
      clear HTx
      go_upto_region 7 with (first | ((with_reducible refine wpList_plain ?_ ?_); exact rfl; intro KK hKK; refine wp_st_alloc HT 28 (tokCells clm0 (zer 32)) rfl (.agg (tokCells clm0 (zer 32))) (by exact zero_tok) (rfl) (fun g11 W41 HSx => hKK _ _ ?_); clear hKK KK HT; have HT : St w2 noF [⟨g11, 28, tokCells clm0 (zer 32)⟩] W41 := HSx; clear HSx) | ((with_reducible refine wpList_plain ?_ ?_); exact rfl; intro KK hKK; refine wp_st_store HT 0 0 28 (.tmp 11) (.tmp 50) rfl rfl rfl (.agg (tokCells c tg)) rfl (by rw [show Value.cells (.agg (tokCells c tg)) = tokCells c tg from rfl, tok_size _ _ HTL.out]; exact size_tok) (by rw [Nat.zero_add, show Value.cells (.agg (tokCells c tg)) = tokCells c tg from rfl, tok_size _ _ HTL.out, tok_size _ _ (length_zer 32)]; exact Nat.le_refl 37) (by exact one_tok _ _) (tokCells c tg) (spl_agg _ _ _ rfl (by rw [tok_size _ _ HTL.out, tok_size _ _ (length_zer 32)])) (fun W42 HSx => hKK _ _ ?_); clear hKK KK HT; have HT : St w2 noF [⟨g11, 28, tokCells c tg⟩] W42 := HSx; clear HSx))
      have HTb := Lib.hid HT.below
      have HR3 : Hid (Row W42 g3 28 (tokCells c tg)) := Lib.hid (HR3x.call HT.below)
      have HR4 : Hid (Row W42 g4 28 (tokCells c2 tg2)) := Lib.hid (HR4x.call HT.below)
      have HR11 : Hid (Row W42 g11 28 (tokCells c tg)) := Lib.hid (HT.row 0 rfl)
      have HBX : Hid (BAt W42 gx 0 B) := Lib.hid (HBXx.call HT.below)
      have HB11 := Lib.hid (HBx.trans (HT.below.mono HBx.size))
      clear HT HR3x HR4x HBXx HBx
      go_upto_region 9 with (first | ((with_reducible refine wplG_row 28 11 g11 28 (tokCells c tg) (0, 0) _ ?_ ?_ ?_ Tryd.underlying28 ?_ ?_ ?_); exact rfl; exact rfl; exact HR11.out; exact rfl; exact HTZ.out) | ((with_reducible refine wplG_row 28 3 g3 28 (tokCells c tg) (0, 0) _ ?_ ?_ ?_ Tryd.underlying28 ?_ ?_ ?_); exact rfl; exact rfl; exact HR3.out; exact rfl; exact HTZ.out))
      clear q7 HR11
      have hF0 : Wl [fun W => Below w.heap.size w W] 0 W42.drew := HB11.out.trans ((Below.refl _ _).drew.mono HB11.out.size)
      clear HB11 HR3 HR4 HBX
      refine wp_region_phs [is (.int .i64 0), is (.bool true), is (.bool true), is (.int .i64 f), is (.bool false), is (.bool false), is (.bool false), is undef, is undef, is undef, is undef, is undef, is undef, is undef, is (.bool false)] [true, true, true, true, true, true, true, true, true, true, true, true, true, true, true] [(fun W => Below w.heap.size w W)] [false, false, false, false, false, false, false, false, false, false, false, false, false, false, false] [some 0, some 0, some 0, some 0, some 0, some 0, some 0, some 0, some 0, some 0, some 0, some 0, some 0, some 0, some 0] [some 59, some 60, some 61, some 62, some 63, some 64, some 65, some 66, some 67, some 68, some 69, some 70, some 71, some 72, some 73] 15 0 (fun i => !([7, 8, 9, 10, 11, 12, 13] : List Nat).contains i) rfl rfl (by kernel_rfl) (by kernel_rfl) (by kernel_rfl) (by kernel_rfl) ?_ ?_ ?_ ?_ ?_ ?_
      · repeat first | exact wok_nil | refine wok_cons (by first | exact fun _ _ h k => h.trans (k.mono h.size)) ?_
      · repeat first | exact vok_nil | refine vok_rig (by first | exact fun _ _ _ h => h) ?_ | refine vok_soft (by first | exact fun _ _ _ h _ => h) ?_
      · exact hF0
      · repeat first | exact all_end (by decide) | refine all_cons (by first | exact rfl | exact ⟨rfl, fun _ _ h => Or.inl h⟩ | exact ⟨rfl, fun _ _ h => Or.inr ⟨h, rfl⟩⟩) ?_
      · refine allp_mild 0 rfl rfl rfl (fun a x W hout hin hP => ?_) ?_
        · have e8 : a.tmps[8]? = some (.int .i64 0) := (hout 8 (by kernel_rfl)).trans rfl
          exact does_move rfl e8 ⟨Same.refl _, rfl⟩
        refine allp_mild 0 rfl rfl rfl (fun a x W hout hin hP => ?_) ?_
        · have e59 := hin.is 0 59 (by kernel_rfl) (by decide) (by kernel_rfl) (by kernel_rfl) _ rfl
          clear hin hout
          intro K Q hK
          go_simp
          exact hK _ _ ⟨Same.refl _, rfl⟩
        refine allp_mild 0 rfl rfl rfl (fun a x W hout hin hP => ?_) ?_
        · have e60 := hin.is 1 60 (by kernel_rfl) (by decide) (by kernel_rfl) (by kernel_rfl) _ rfl
          exact does_move rfl e60 ⟨Same.refl _, rfl⟩
        refine allp_mild 0 rfl rfl rfl (fun a x W hout hin hP => ?_) ?_
        · have e10 : a.tmps[10]? = some (.int .i64 f) := (hout 10 (by kernel_rfl)).trans rfl
          exact does_move rfl e10 ⟨Same.refl _, rfl⟩
        refine allp_mild 0 rfl rfl rfl (fun a x W hout hin hP => ?_) ?_
        · have e62 := hin.is 3 62 (by kernel_rfl) (by decide) (by kernel_rfl) (by kernel_rfl) _ rfl
          clear hin hout
          intro K Q hK
          go_simp
          exact hK _ _ ⟨Same.refl _, rfl⟩
        refine allp_mild 0 rfl rfl rfl (fun a x W hout hin hP => ?_) ?_
        · have e61 := hin.is 2 61 (by kernel_rfl) (by decide) (by kernel_rfl) (by kernel_rfl) _ rfl
          have e63 := hin.is 4 63 (by kernel_rfl) (by decide) (by kernel_rfl) (by kernel_rfl) _ rfl
          exact does_pick rfl e61 ⟨Same.refl _, eval_of_get e63⟩
        refine allp_mild 0 rfl rfl rfl (fun a x W hout hin hP => ?_) ?_
        · have e64 := hin.is 5 64 (by kernel_rfl) (by decide) (by kernel_rfl) (by kernel_rfl) _ rfl
          exact does_move rfl e64 ⟨Same.refl _, rfl⟩
        refine allp_skip rfl rfl (fun _ => rfl) ?_
        refine allp_skip rfl rfl (fun _ => rfl) ?_
        refine allp_skip rfl rfl (fun _ => rfl) ?_
        refine allp_skip rfl rfl (fun _ => rfl) ?_
        refine allp_skip rfl rfl (fun _ => rfl) ?_
        refine allp_skip rfl rfl (fun _ => rfl) ?_
        refine allp_skip rfl rfl (fun _ => rfl) ?_
        refine allp_mild 0 rfl rfl rfl (fun a x W hout hin hP => ?_) ?_
        · have e65 := hin.is 6 65 (by kernel_rfl) (by decide) (by kernel_rfl) (by kernel_rfl) _ rfl
          have e72 := hin.is 13 72 (by kernel_rfl) (by decide) (by kernel_rfl) (by kernel_rfl) _ rfl
          exact does_pick rfl e65 ⟨Same.refl _, rfl⟩
        exact all_end (by decide)
      · intro x W hP hV
        have h14 : x 14 = .bool false := hV 14 (by decide) (.inl (by kernel_rfl))
        have HBT := Lib.hid (hP)
        clear hV hP
        simp only [putL, Act.put, List.setIfInBounds_toArray, List.set_cons_succ, List.set_cons_zero, h14]
        simp only [Nat.zero_add, Nat.reduceAdd]
        refine wpAnyH_done (by kernel_rfl) ?_ _
        clear h14
        have hsb := HQ.out.below HBT.out (Nat.le_refl _)
        have HT := St.nil W noF
        go_wp2_with fail
        refine (HDQ.out W hsb).mono ?_
        rintro e v1 ⟨rfl, hb⟩
        have HTx := HT.same hb
        clear HT hb hsb
        have HT := HTx
        clear HTx
        go_upto_region 12 with (first | ((with_reducible refine wpList_plain ?_ ?_); exact rfl; intro KK hKK; refine wp_st_alloc HT 28 (tokCells clm0 (zer 32)) rfl (.agg (tokCells clm0 (zer 32))) (by exact zero_tok) (rfl) (fun g13 W61 HSx => hKK _ _ ?_); clear hKK KK HT; have HT : St W noF [⟨g13, 28, tokCells clm0 (zer 32)⟩] W61 := HSx; clear HSx) | ((with_reducible refine wpList_plain ?_ ?_); exact rfl; intro KK hKK; refine wp_st_store HT 0 0 28 (.tmp 13) (.tmp 77) rfl rfl rfl (.agg (tokCells X G)) rfl (by rw [show Value.cells (.agg (tokCells X G)) = tokCells X G from rfl, tok_size _ _ HGL.out]; exact size_tok) (by rw [Nat.zero_add, show Value.cells (.agg (tokCells X G)) = tokCells X G from rfl, tok_size _ _ HGL.out, tok_size _ _ (length_zer 32)]; exact Nat.le_refl 37) (by exact one_tok _ _) (tokCells X G) (spl_agg _ _ _ rfl (by rw [tok_size _ _ HGL.out, tok_size _ _ (length_zer 32)])) (fun W62 HSx => hKK _ _ ?_); clear hKK KK HT; have HT : St W noF [⟨g13, 28, tokCells X G⟩] W62 := HSx; clear HSx))
        have HR13 : Hid (Row W62 g13 28 (tokCells X G)) := Lib.hid (HT.row 0 rfl)
        have HB13 := Lib.hid (HBT.out.trans (HT.below.mono HBT.out.size))
        clear HT HBT
        rcases HTAIL.out with ⟨hE, hen⟩ | ⟨hE, hX, hG⟩
        · subst hE
          go_wp2_with (first | ((with_reducible refine wpList_plain ?_ ?_); exact rfl; intro KK hKK; refine wp_load_row 28 (.tmp 13) rfl g13 rfl 28 (tokCells X G) (0, 0) _ HR13.out Tryd.underlying28 rfl (by rw [tok_size _ _ HGL.out]; exact size_tok) (hKK _ _ ?_); clear hKK KK))
          refine (hen W62).mono ?_
          rintro e v2 ⟨vz, rfl, hz, hb⟩
          have HB14 := Lib.hid (HB13.out.trans (hb.mono HB13.out.size))
          have hs2 := HQ.out.below HB14.out (Nat.le_refl _)
          clear hb hen
          go_wp2_with fail
          refine (keepb_any vz _ q q v2 hz hs2).mono ?_
          rintro e v3 ⟨rfl, rfl⟩
          rw [decide_eq_true (rfl : q = q)]
          clear hz hs2
          go_wp2_with fail
          refine (tkwakes_any v2).mono ?_
          rintro e w99 ⟨rfl, hb⟩
          go_wp2_with fail
          go_ret
          exact ⟨rfl, HB14.out.trans (hb.mono HB14.out.size)⟩
        · subst hE
          subst hX
          subst hG
          have q9 : ∀ w, (Op.equalIn 10000 28 (.agg (tokCells clm0 (zer 32))) (.agg (tokCells clm0 (zer 32)))).run Tryd.prog w = .ok true w := fun w => by
            have := eql_tok clm0 clm0 (zer 32) (zer 32) (length_zer 32) (length_zer 32) w
            rwa [decide_eq_true ⟨rfl, rfl⟩] at this
          go_wp2_with (first | ((with_reducible refine wpList_plain ?_ ?_); exact rfl; intro KK hKK; refine wp_load_row 28 (.tmp 13) rfl g13 rfl 28 (tokCells clm0 (zer 32)) (0, 0) _ HR13.out Tryd.underlying28 rfl (by exact size_tok) (hKK _ _ ?_); clear hKK KK) | ((with_reducible refine wplG_build0 28 (tokCells clm0 (zer 32)) ?_ built_tok0 ?_); exact rfl))
          refine (tkwakes_any W62).mono ?_
          rintro e w99 ⟨rfl, hb⟩
          go_wp2_with fail
          go_ret
          exact ⟨rfl, HB13.out.trans (hb.mono HB13.out.size)⟩
    | true =>
      have HE2 := Lib.hid (fun w => tokenc_good c2 tg2 w HTL2.out HM2.out hc2)
      obtain ⟨B2, hB2⟩ : ∃ B, clmB c2 ++ tg2 = B := ⟨_, rfl⟩
      have HBL2 : Hid (B2.length = 46) := Lib.hid (by rw [← hB2, List.length_append, length_clmB, HTL2.out])
      rw [hB2] at HE2
      obtain ⟨D, hD⟩ : ∃ D, decide (B = B2) = D := ⟨_, rfl⟩
      have HD1 := Lib.hid hD
      have HQ2 : Hid (∀ w, (Op.equalIn 10000 28 (.agg (tokCells c tg)) (.agg (tokCells c2 tg2))).run Tryd.prog w = .ok D w) := Lib.hid fun w => by
        rw [eql_tok c c2 tg tg2 HTL.out HTL2.out w, ← hD]
        congr 1
        refine decide_eq_decide.2 ?_
        rw [← hB, ← hB2]
        exact (tok_inj hc hc2 HTL.out HTL2.out).symm
      clear hc hc2 hB hB2 hfair hD
      go_enter Tryd.func4, Tryd.ntmps4
      go_upto_region 1 with (first | ((with_reducible refine wpList_plain ?_ ?_); exact rfl; intro KK hKK; refine wp_st_box HS 28 (.tmp 0) rfl _ rfl (tokCells c tg) (rfl) (fun g3 W1 HSx => hKK _ _ ?_); clear hKK KK HS; have HS : St w noF [⟨g3, 28, tokCells c tg⟩] W1 := HSx; clear HSx) | ((with_reducible refine wpList_plain ?_ ?_); exact rfl; intro KK hKK; refine wp_st_box HS 28 (.tmp 1) rfl _ rfl (tokCells c2 tg2) (rfl) (fun g4 W2 HSx => hKK _ _ ?_); clear hKK KK HS; have HS : St w noF [⟨g3, 28, tokCells c tg⟩, ⟨g4, 28, tokCells c2 tg2⟩] W2 := HSx; clear HSx))
      have c1 : W2.cell? ⟨g3, 1, none⟩ = some (.string (strB c.n)) := (HS.row 0 rfl).get (tok_get _ _ rfl)
      have c2' : W2.cell? ⟨g4, 1, none⟩ = some (.string (strB c2.n)) := (HS.row 1 rfl).get (tok_get _ _ rfl)
      go_upto_region 3 with fail
      clear c1 c2' h1 h2 h3 d1 d2 d3 hnl hnl2
      go_wp2_with (first | ((with_reducible refine wpList_plain ?_ ?_); exact rfl; intro KK hKK; refine wp_st_load HS 0 0 28 (.tmp 3) rfl rfl rfl (tokCells c tg) (slab_whole _) _ Tryd.underlying28 rfl (by exact HTZ.out) (hKK _ _ ?_); clear hKK KK))
      refine (HE.out _).mono ?_
      rintro e w1 ⟨v1, rfl, ho, hb⟩
      have HSx := HS.same hb
      clear HS hb HE
      have HS := HSx
      clear HSx
      obtain ⟨gx, cx, curx, rfl, _, hrx, hcx, htx⟩ := own_row ho (by rw [HBL.out]; decide)
      have HBX0 : Hid (BAt w1 gx 0 B) := Lib.hid (slice_at (row_pre (q := B) hrx htx hcx) (by rw [HBL.out]; decide))
      rw [HBL.out] at hcx ⊢
      have HCX : Hid (46 ≤ cx) := Lib.hid hcx
      clear ho hrx hcx htx
      go_wp2_with (first | ((with_reducible refine wpList_plain ?_ ?_); exact rfl; intro KK hKK; refine wp_st_load HS 1 0 28 (.tmp 4) rfl rfl rfl (tokCells c2 tg2) (slab_whole _) _ Tryd.underlying28 rfl (by exact HTZ2.out) (hKK _ _ ?_); clear hKK KK))
      refine (HE2.out _).mono ?_
      rintro e w2 ⟨v2, rfl, ho2, hb⟩
      obtain ⟨gy, cy, cury, rfl, _, hry, hcy, hty⟩ := own_row ho2 (by rw [HBL2.out]; decide)
      have HBY0 : Hid (BAt w2 gy 0 B2) := Lib.hid (slice_at (row_pre (q := B2) hry hty hcy) (by rw [HBL2.out]; decide))
      rw [HBL2.out] at hcy ⊢
      have HCY : Hid (46 ≤ cy) := Lib.hid hcy
      clear ho2 hry hcy hty
      have HBXx := HBX0.out.call hb
      have HSx := HS.same hb
      have HR3x : Row w2 g3 28 (tokCells c tg) := HSx.row 0 rfl
      have HR4x : Row w2 g4 28 (tokCells c2 tg2) := HSx.row 1 rfl
      have HBx := HSx.below
      have hbb := Below.refl w2.heap.size w2
      have HT := St.nil w2 noF
      clear HS hb HSx HBX0
      go_wp2_with fail
      refine (HDB.out _ _ w2 (HBXx.slice HBL.out HCX.out)).mono ?_
      rintro e w3 ⟨rfl, hb⟩
      have HTx := HT.same hb
      clear HT hb HDB
      have HT := HTx
      clear HTx
      go_upto_region 7 with (first | ((with_reducible refine wpList_plain ?_ ?_); exact rfl; intro KK hKK; refine wp_st_alloc HT 28 (tokCells clm0 (zer 32)) rfl (.agg (tokCells clm0 (zer 32))) (by exact zero_tok) (rfl) (fun g11 W41 HSx => hKK _ _ ?_); clear hKK KK HT; have HT : St w2 noF [⟨g11, 28, tokCells clm0 (zer 32)⟩] W41 := HSx; clear HSx) | ((with_reducible refine wpList_plain ?_ ?_); exact rfl; intro KK hKK; refine wp_st_store HT 0 0 28 (.tmp 11) (.tmp 50) rfl rfl rfl (.agg (tokCells c tg)) rfl (by rw [show Value.cells (.agg (tokCells c tg)) = tokCells c tg from rfl, tok_size _ _ HTL.out]; exact size_tok) (by rw [Nat.zero_add, show Value.cells (.agg (tokCells c tg)) = tokCells c tg from rfl, tok_size _ _ HTL.out, tok_size _ _ (length_zer 32)]; exact Nat.le_refl 37) (by exact one_tok _ _) (tokCells c tg) (spl_agg _ _ _ rfl (by rw [tok_size _ _ HTL.out, tok_size _ _ (length_zer 32)])) (fun W42 HSx => hKK _ _ ?_); clear hKK KK HT; have HT : St w2 noF [⟨g11, 28, tokCells c tg⟩] W42 := HSx; clear HSx))
      have HTb := Lib.hid HT.below
      have HR3 : Hid (Row W42 g3 28 (tokCells c tg)) := Lib.hid (HR3x.call HT.below)
      have HR4 : Hid (Row W42 g4 28 (tokCells c2 tg2)) := Lib.hid (HR4x.call HT.below)
      have HR11 : Hid (Row W42 g11 28 (tokCells c tg)) := Lib.hid (HT.row 0 rfl)
      have HBX : Hid (BAt W42 gx 0 B) := Lib.hid (HBXx.call HT.below)
      have HB11 := Lib.hid (HBx.trans (HT.below.mono HBx.size))
      clear HT HR3x HR4x HBXx HBx
      go_upto_region 9 with (first | ((with_reducible refine wplG_row 28 11 g11 28 (tokCells c tg) (0, 0) _ ?_ ?_ ?_ Tryd.underlying28 ?_ ?_ ?_); exact rfl; exact rfl; exact HR11.out; exact rfl; exact HTZ.out) | ((with_reducible refine wplG_row 28 3 g3 28 (tokCells c tg) (0, 0) _ ?_ ?_ ?_ Tryd.underlying28 ?_ ?_ ?_); exact rfl; exact rfl; exact HR3.out; exact rfl; exact HTZ.out))
      clear q7 HR11
      have HBY : Hid (BAt W42 gy 0 B2) := Lib.hid (HBY0.out.call (hbb.trans (HTb.out.mono hbb.size)))
      have hF0 : Wl [fun W => Below w.heap.size w W ∧ Row W g3 28 (tokCells c tg) ∧ Row W g4 28 (tokCells c2 tg2) ∧ BAt W gx 0 B ∧ BAt W gy 0 B2] 0 W42.drew := ⟨HB11.out.trans ((Below.refl _ _).drew.mono HB11.out.size), HR3.out.call (Below.refl _ _).drew, HR4.out.call (Below.refl _ _).drew, HBX.out.call (Below.refl _ _).drew, HBY.out.call (Below.refl _ _).drew⟩
      clear HB11 HR3 HR4 HBX HBY HBY0
      refine wp_region_phs [is (.int .i64 0), is (.bool true), is (.bool true), is (.int .i64 0), is (.bool true), is (.bool true), is (.bool true), is (.slice (some ⟨gx, 0, none⟩) 46 cx), is (.slice (some ⟨gy, 0, none⟩) 46 cy), is (.bool D), is (.agg (tokCells c tg)), is (.agg (tokCells c2 tg2)), is (.bool D), is (.bool false), is (.bool false)] [true, true, true, true, true, true, true, true, true, true, true, true, true, true, true] [(fun W => Below w.heap.size w W ∧ Row W g3 28 (tokCells c tg) ∧ Row W g4 28 (tokCells c2 tg2) ∧ BAt W gx 0 B ∧ BAt W gy 0 B2)] [false, false, false, false, false, false, false, false, false, false, false, false, false, false, false] [some 0, some 0, some 0, some 0, some 0, some 0, some 0, some 0, some 0, some 0, some 0, some 0, some 0, some 0, some 0] [some 59, some 60, some 61, some 62, some 63, some 64, some 65, some 66, some 67, some 68, some 69, some 70, some 71, some 72, some 73] 15 0 (fun _ => true) rfl rfl (by kernel_rfl) (by kernel_rfl) (by kernel_rfl) (by kernel_rfl) ?_ ?_ ?_ ?_ ?_ ?_
      · repeat first | exact wok_nil | refine wok_cons (by first | exact fun _ _ h k => ⟨h.1.trans (k.mono h.1.size), h.2.1.call k, h.2.2.1.call k, h.2.2.2.1.call k, h.2.2.2.2.call k⟩) ?_
      · repeat first | exact vok_nil | refine vok_rig (by first | exact fun _ _ _ h => h) ?_ | refine vok_soft (by first | exact fun _ _ _ h _ => h) ?_
      · exact hF0
      · repeat first | exact all_end (by decide) | refine all_cons (by first | exact rfl | exact ⟨rfl, fun _ _ h => Or.inl h⟩ | exact ⟨rfl, fun _ _ h => Or.inr ⟨h, rfl⟩⟩) ?_
      · refine allp_mild 0 rfl rfl rfl (fun a x W hout hin hP => ?_) ?_
        · have e8 : a.tmps[8]? = some (.int .i64 0) := (hout 8 (by kernel_rfl)).trans rfl
          exact does_move rfl e8 ⟨Same.refl _, rfl⟩
        refine allp_mild 0 rfl rfl rfl (fun a x W hout hin hP => ?_) ?_
        · have e59 := hin.is 0 59 (by kernel_rfl) (by decide) (by kernel_rfl) (by kernel_rfl) _ rfl
          clear hin hout
          intro K Q hK
          go_simp
          exact hK _ _ ⟨Same.refl _, rfl⟩
        refine allp_mild 0 rfl rfl rfl (fun a x W hout hin hP => ?_) ?_
        · have e60 := hin.is 1 60 (by kernel_rfl) (by decide) (by kernel_rfl) (by kernel_rfl) _ rfl
          exact does_move rfl e60 ⟨Same.refl _, rfl⟩
        refine allp_mild 0 rfl rfl rfl (fun a x W hout hin hP => ?_) ?_
        · have e10 : a.tmps[10]? = some (.int .i64 0) := (hout 10 (by kernel_rfl)).trans rfl
          exact does_move rfl e10 ⟨Same.refl _, rfl⟩
        refine allp_mild 0 rfl rfl rfl (fun a x W hout hin hP => ?_) ?_
        · have e62 := hin.is 3 62 (by kernel_rfl) (by decide) (by kernel_rfl) (by kernel_rfl) _ rfl
          clear hin hout
          intro K Q hK
          go_simp
          exact hK _ _ ⟨Same.refl _, rfl⟩
        refine allp_mild 0 rfl rfl rfl (fun a x W hout hin hP => ?_) ?_
        · have e61 := hin.is 2 61 (by kernel_rfl) (by decide) (by kernel_rfl) (by kernel_rfl) _ rfl
          have e63 := hin.is 4 63 (by kernel_rfl) (by decide) (by kernel_rfl) (by kernel_rfl) _ rfl
          exact does_pick rfl e61 ⟨Same.refl _, eval_of_get e63⟩
        refine allp_mild 0 rfl rfl rfl (fun a x W hout hin hP => ?_) ?_
        · have e64 := hin.is 5 64 (by kernel_rfl) (by decide) (by kernel_rfl) (by kernel_rfl) _ rfl
          exact does_move rfl e64 ⟨Same.refl _, rfl⟩
        refine allp_mild 0 rfl rfl rfl (fun a x W hout hin hP => ?_) ?_
        · have e7 : a.tmps[7]? = some (.slice (some ⟨gx, 0, none⟩) 46 cx) := (hout 7 (by kernel_rfl)).trans rfl
          exact does_move rfl e7 ⟨Same.refl _, rfl⟩
        refine allp_mild 0 rfl rfl rfl (fun a x W hout hin hP => ?_) ?_
        · have e9 : a.tmps[9]? = some (.slice (some ⟨gy, 0, none⟩) 46 cy) := (hout 9 (by kernel_rfl)).trans rfl
          exact does_move rfl e9 ⟨Same.refl _, rfl⟩
        refine allp_mild 0 rfl rfl rfl (fun a x W hout hin hP => ?_) ?_
        · have e66 := hin.is 7 66 (by kernel_rfl) (by decide) (by kernel_rfl) (by kernel_rfl) _ rfl
          have e67 := hin.is 8 67 (by kernel_rfl) (by decide) (by kernel_rfl) (by kernel_rfl) _ rfl
          have C := keepb_any _ _ B B2 W (hP.2.2.2.1.slice HBL.out HCX.out) (hP.2.2.2.2.slice HBL2.out HCY.out)
          rw [HD1.out] at C
          clear hP
          clear hin hout
          intro K Q hK
          go_simp
          refine C.mono ?_
          rintro e W' ⟨rfl, rfl⟩
          exact hK _ _ ⟨Same.refl _, rfl⟩
        refine allp_mild 0 rfl rfl rfl (fun a x W hout hin hP => ?_) ?_
        · have e3 : a.tmps[3]? = some (.pointer (some ⟨g3, 0, none⟩)) := (hout 3 (by kernel_rfl)).trans rfl
          clear hin hout
          intro K Q hK
          refine wp_load_row 28 (.tmp 3) rfl g3 (eval_of_get e3) 28 (tokCells c tg) (0, 0) _ hP.2.1 Tryd.underlying28 rfl (by exact HTZ.out) ?_
          exact hK _ _ ⟨Same.refl _, rfl⟩
        refine allp_mild 0 rfl rfl rfl (fun a x W hout hin hP => ?_) ?_
        · have e4 : a.tmps[4]? = some (.pointer (some ⟨g4, 0, none⟩)) := (hout 4 (by kernel_rfl)).trans rfl
          clear hin hout
          intro K Q hK
          refine wp_load_row 28 (.tmp 4) rfl g4 (eval_of_get e4) 28 (tokCells c2 tg2) (0, 0) _ hP.2.2.1 Tryd.underlying28 rfl (by exact HTZ2.out) ?_
          exact hK _ _ ⟨Same.refl _, rfl⟩
        refine allp_mild 0 rfl rfl rfl (fun a x W hout hin hP => ?_) ?_
        · have e69 := hin.is 10 69 (by kernel_rfl) (by decide) (by kernel_rfl) (by kernel_rfl) _ rfl
          have e70 := hin.is 11 70 (by kernel_rfl) (by decide) (by kernel_rfl) (by kernel_rfl) _ rfl
          have qq := HQ2.out
          clear hP
          clear hin hout
          intro K Q hK
          go_simp
          exact hK _ _ ⟨Same.refl _, rfl⟩
        refine allp_mild 0 rfl rfl rfl (fun a x W hout hin hP => ?_) ?_
        · have e68 := hin.is 9 68 (by kernel_rfl) (by decide) (by kernel_rfl) (by kernel_rfl) _ rfl
          have e71 := hin.is 12 71 (by kernel_rfl) (by decide) (by kernel_rfl) (by kernel_rfl) _ rfl
          clear hP hin hout
          intro K Q hK
          have hdd : (D != D) = false := by cases D <;> rfl
          have hdq : (D == D) = true := by cases D <;> rfl
          go_simp
          exact hK _ _ ⟨Same.refl _, rfl⟩
        refine allp_mild 0 rfl rfl rfl (fun a x W hout hin hP => ?_) ?_
        · have e65 := hin.is 6 65 (by kernel_rfl) (by decide) (by kernel_rfl) (by kernel_rfl) _ rfl
          have e72 := hin.is 13 72 (by kernel_rfl) (by decide) (by kernel_rfl) (by kernel_rfl) _ rfl
          exact does_pick rfl e65 ⟨Same.refl _, eval_of_get e72⟩
        exact all_end (by decide)
      · intro x W hP hV
        have h14 : x 14 = .bool false := hV 14 (by decide) (.inl (by kernel_rfl))
        have HBT := Lib.hid (hP.1)
        clear hV hP
        simp only [putL, Act.put, List.setIfInBounds_toArray, List.set_cons_succ, List.set_cons_zero, h14]
        simp only [Nat.zero_add, Nat.reduceAdd]
        refine wpAnyH_done (by kernel_rfl) ?_ _
        clear h14
        have hsb := HQ.out.below HBT.out (Nat.le_refl _)
        have HT := St.nil W noF
        go_wp2_with fail
        refine (HDQ.out W hsb).mono ?_
        rintro e v1 ⟨rfl, hb⟩
        have HTx := HT.same hb
        clear HT hb hsb
        have HT := HTx
        clear HTx
        go_upto_region 12 with (first | ((with_reducible refine wpList_plain ?_ ?_); exact rfl; intro KK hKK; refine wp_st_alloc HT 28 (tokCells clm0 (zer 32)) rfl (.agg (tokCells clm0 (zer 32))) (by exact zero_tok) (rfl) (fun g13 W61 HSx => hKK _ _ ?_); clear hKK KK HT; have HT : St W noF [⟨g13, 28, tokCells clm0 (zer 32)⟩] W61 := HSx; clear HSx) | ((with_reducible refine wpList_plain ?_ ?_); exact rfl; intro KK hKK; refine wp_st_store HT 0 0 28 (.tmp 13) (.tmp 77) rfl rfl rfl (.agg (tokCells X G)) rfl (by rw [show Value.cells (.agg (tokCells X G)) = tokCells X G from rfl, tok_size _ _ HGL.out]; exact size_tok) (by rw [Nat.zero_add, show Value.cells (.agg (tokCells X G)) = tokCells X G from rfl, tok_size _ _ HGL.out, tok_size _ _ (length_zer 32)]; exact Nat.le_refl 37) (by exact one_tok _ _) (tokCells X G) (spl_agg _ _ _ rfl (by rw [tok_size _ _ HGL.out, tok_size _ _ (length_zer 32)])) (fun W62 HSx => hKK _ _ ?_); clear hKK KK HT; have HT : St W noF [⟨g13, 28, tokCells X G⟩] W62 := HSx; clear HSx))
        have HR13 : Hid (Row W62 g13 28 (tokCells X G)) := Lib.hid (HT.row 0 rfl)
        have HB13 := Lib.hid (HBT.out.trans (HT.below.mono HBT.out.size))
        clear HT HBT
        rcases HTAIL.out with ⟨hE, hen⟩ | ⟨hE, hX, hG⟩
        · subst hE
          go_wp2_with (first | ((with_reducible refine wpList_plain ?_ ?_); exact rfl; intro KK hKK; refine wp_load_row 28 (.tmp 13) rfl g13 rfl 28 (tokCells X G) (0, 0) _ HR13.out Tryd.underlying28 rfl (by rw [tok_size _ _ HGL.out]; exact size_tok) (hKK _ _ ?_); clear hKK KK))
          refine (hen W62).mono ?_
          rintro e v2 ⟨vz, rfl, hz, hb⟩
          have HB14 := Lib.hid (HB13.out.trans (hb.mono HB13.out.size))
          have hs2 := HQ.out.below HB14.out (Nat.le_refl _)
          clear hb hen
          go_wp2_with fail
          refine (keepb_any vz _ q q v2 hz hs2).mono ?_
          rintro e v3 ⟨rfl, rfl⟩
          rw [decide_eq_true (rfl : q = q)]
          clear hz hs2
          go_wp2_with fail
          refine (tkwakes_any v2).mono ?_
          rintro e w99 ⟨rfl, hb⟩
          go_wp2_with fail
          go_ret
          exact ⟨rfl, HB14.out.trans (hb.mono HB14.out.size)⟩
        · subst hE
          subst hX
          subst hG
          have q9 : ∀ w, (Op.equalIn 10000 28 (.agg (tokCells clm0 (zer 32))) (.agg (tokCells clm0 (zer 32)))).run Tryd.prog w = .ok true w := fun w => by
            have := eql_tok clm0 clm0 (zer 32) (zer 32) (length_zer 32) (length_zer 32) w
            rwa [decide_eq_true ⟨rfl, rfl⟩] at this
          go_wp2_with (first | ((with_reducible refine wpList_plain ?_ ?_); exact rfl; intro KK hKK; refine wp_load_row 28 (.tmp 13) rfl g13 rfl 28 (tokCells clm0 (zer 32)) (0, 0) _ HR13.out Tryd.underlying28 rfl (by exact size_tok) (hKK _ _ ?_); clear hKK KK) | ((with_reducible refine wplG_build0 28 (tokCells clm0 (zer 32)) ?_ built_tok0 ?_); exact rfl))
          refine (tkwakes_any W62).mono ?_
          rintro e w99 ⟨rfl, hb⟩
          go_wp2_with fail
          go_ret
          exact ⟨rfl, HB13.out.trans (hb.mono HB13.out.size)⟩
end Go.Proofs.YteidjbbhhfdcpaaDoor
