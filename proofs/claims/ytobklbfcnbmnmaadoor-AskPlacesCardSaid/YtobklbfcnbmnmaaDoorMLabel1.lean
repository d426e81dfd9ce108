/- Merged: AskPlaces TokOpen AskOpen AskBack AskEq AskTurns. -/
import Derived.Test.YtobklbfcnbmnmaaDoorMLabel0
import Derived.Test.YtobklbfcnbmnmaaDoorMGen1
import Derived.Test.YtobklbfcnbmnmaaDoorMSeal0
/- The statement AskPlaces: its walk. -/
set_option maxRecDepth 4000
namespace Go.Proofs.YtobklbfcnbmnmaaDoor
open Go Go.RowKit
theorem row4 {w : World} {g : Nat} {t : TypeId} {v : List (BitVec 8)} (h : Row w g t (bs (padN v))) : Slice w (.slice (some ⟨g, 0, none⟩) 4 4) (padN v) := by
  have := row_slice h (c := 4) (by rw [length_padN]; decide)
  rwa [length_padN] at this
set_option maxHeartbeats 3200000 in
theorem askplaces_walk (X : Asq) (w : World) (h : X.Ok) : Calls Tryd.prog 5 #[.agg (askC X)] w fun x w' => x = .returned (.bool true) ∧ Below w.heap.size w w' := by
  have HOK := Lib.hid h
  clear h
  have HS := St.nil w noF
  cases hsm : (decide (X.c.n.length ≤ 100) && decide (X.v.length ≤ 100)) with
  | false =>
    go_enter Tryd.func5, Tryd.ntmps5
    go_upto_region 1 with (first | ((with_reducible refine wpList_plain ?_ ?_); exact rfl; intro KK hKK; refine wp_st_box HS 31 (.tmp 0) rfl _ rfl (askC X) (rfl) (fun g1 W1 HSx => hKK _ _ ?_); clear hKK KK HS; have HS : St w noF [⟨g1, 31, askC X⟩] W1 := HSx; clear HSx))
    go_wp2_with (first | ((with_reducible refine wpList_plain ?_ ?_); exact rfl; intro KK hKK; refine wp_st_load HS 0 0 31 (.tmp 1) rfl rfl rfl (askC X) (slab_whole _) _ Tryd.underlying31 rfl (by rw [size_askC HOK.out]; exact size_ask) (hKK _ _ ?_); clear hKK KK))
    refine (asmall_any X _ HOK.out).mono ?_
    rintro x w2 ⟨rfl, hb⟩
    have HSx := HS.same hb
    clear HS hb 
    have HS := HSx
    clear HSx
    rw [hsm]
    go_wp2_with fail
    refine (askwakes_any _).mono ?_
    rintro x9 w99 ⟨rfl, hb⟩
    go_wp2_with fail
    go_ret
    exact ⟨rfl, (HS.same hb).below⟩
  | true =>
    have HSM := Lib.hid hsm
    clear hsm
    cases hm : mayA X with
    | false =>
      have CE := Lib.hid (fun W => askenc_bad X W HOK.out hm)
      clear hm
      go_enter Tryd.func5, Tryd.ntmps5
      go_upto_region 1 with (first | ((with_reducible refine wpList_plain ?_ ?_); exact rfl; intro KK hKK; refine wp_st_box HS 31 (.tmp 0) rfl _ rfl (askC X) (rfl) (fun g1 W1 HSx => hKK _ _ ?_); clear hKK KK HS; have HS : St w noF [⟨g1, 31, askC X⟩] W1 := HSx; clear HSx))
      go_wp2_with (first | ((with_reducible refine wpList_plain ?_ ?_); exact rfl; intro KK hKK; refine wp_st_load HS 0 0 31 (.tmp 1) rfl rfl rfl (askC X) (slab_whole _) _ Tryd.underlying31 rfl (by rw [size_askC HOK.out]; exact size_ask) (hKK _ _ ?_); clear hKK KK))
      refine (asmall_any X _ HOK.out).mono ?_
      rintro x w2 ⟨rfl, hb⟩
      have HSx := HS.same hb
      clear HS hb 
      have HS := HSx
      clear HSx
      rw [HSM.out]
      go_upto_region 3 with fail
      go_wp2_with (first | ((with_reducible refine wpList_plain ?_ ?_); exact rfl; intro KK hKK; refine wp_st_load HS 0 0 31 (.tmp 1) rfl rfl rfl (askC X) (slab_whole _) _ Tryd.underlying31 rfl (by rw [size_askC HOK.out]; exact size_ask) (hKK _ _ ?_); clear hKK KK))
      refine (CE.out _).mono ?_
      rintro x w3 ⟨rfl, hb⟩
      have HSx := HS.same hb
      clear HS hb CE
      have HS := HSx
      clear HSx
      go_wp2_with fail
      refine (askwakes_any _).mono ?_
      rintro x9 w99 ⟨rfl, hb⟩
      go_wp2_with fail
      go_ret
      exact ⟨rfl, (HS.same hb).below⟩
    | true =>
      obtain ⟨_, hk, _, hz0, hz1⟩ := mayA_parts hm
      rcases hk with hk | ⟨hk, _⟩
      · skip
        have HL : (bodA X).length = 84 := by rw [length_bodA HOK.out, hk]; rfl
        obtain ⟨B, hB⟩ : ∃ B, encA X = B := ⟨_, rfl⟩
        obtain ⟨K, hK⟩ : ∃ K, crcOf (bodA X) = K := ⟨_, rfl⟩
        obtain ⟨k1, hk1⟩ : ∃ k1, K.setWidth 8 = k1 := ⟨_, rfl⟩
        obtain ⟨k2, hk2⟩ : ∃ k2, (K >>> 8).setWidth 8 = k2 := ⟨_, rfl⟩
        obtain ⟨z, hz⟩ : ∃ z, X.z = z := ⟨_, rfl⟩
        rw [hz] at hz0 hz1
        have HZ := Lib.hid hz
        have HK := Lib.hid hk
        have HCK := Lib.hid hK
        have HBL : Hid (B.length = 86) := Lib.hid (by rw [← hB]; exact len_encA HL)
        have HY0 : Hid (bd (B.getD 0 0#8) = 2) := Lib.hid (by rw [← hB, enc_kind, hk]; rfl)
        have HYZ : Hid (bd (B.getD 51 0#8) = z) := Lib.hid (by rw [← hB, enc_at HOK.out, hz]; exact bd_byteI hz0 (by omega))
        have HWZ : Hid (IntKind.i64.wrap z = z) := Lib.hid (i64_id _ (by omega) (by omega))
        have HTK : Hid ((B.drop 1).take 46 = clmB X.c ++ X.t) := Lib.hid (by rw [← hB]; exact enc_tok HOK.out)
        have HNM : Hid ((B.drop 47).take 4 = padN X.v) := Lib.hid (by rw [← hB]; exact enc_name HOK.out)
        have HDT : Hid ((B.drop 52).take 32 = X.d) := Lib.hid (by rw [← hB]; exact enc_dat HOK.out hk)
        have HBD : Hid (B.take 84 = bodA X) := Lib.hid (by rw [← hB]; exact enc_body X HL)
        have HBM := Lib.hid HL
        have HYA : Hid (bd (B.getD 84 0#8) = bd k1) := Lib.hid (by rw [← hB, enc_c1 X HL, hK, hk1])
        have HYB : Hid (bd (B.getD 85 0#8) = bd k2) := Lib.hid (by rw [← hB, show (85 : Nat) = 84 + 1 from rfl, enc_c2 X HL, hK, hk2])
        have HK1 : Hid (IntKind.u8.wrap (hd K) = bd k1) := Lib.hid (by rw [lowb_hd, hk1])
        have HK2 : Hid (IntKind.u8.wrap (hd K / (256 : Int)) = bd k2) := Lib.hid (by rw [lowb8_hd, hk2])
        have HL46 : Hid ((clmB X.c ++ X.t).length = 46) := Lib.hid (by rw [List.length_append, length_clmB, HOK.out.t])
        have CE := Lib.hid (fun W => askenc_good X W HOK.out hm)
        rw [hB] at CE
        have CT := Lib.hid (fun W => tokenc_good X.c X.t W HOK.out.t HOK.out.n (mayA_parts hm).1)
        clear hm hz hz0 hz1 hK hB hk1 hk2 HL hk
        go_enter Tryd.func5, Tryd.ntmps5
        go_upto_region 1 with (first | ((with_reducible refine wpList_plain ?_ ?_); exact rfl; intro KK hKK; refine wp_st_box HS 31 (.tmp 0) rfl _ rfl (askC X) (rfl) (fun g1 W1 HSx => hKK _ _ ?_); clear hKK KK HS; have HS : St w noF [⟨g1, 31, askC X⟩] W1 := HSx; clear HSx))
        go_wp2_with (first | ((with_reducible refine wpList_plain ?_ ?_); exact rfl; intro KK hKK; refine wp_st_load HS 0 0 31 (.tmp 1) rfl rfl rfl (askC X) (slab_whole _) _ Tryd.underlying31 rfl (by rw [size_askC HOK.out]; exact size_ask) (hKK _ _ ?_); clear hKK KK))
        refine (asmall_any X _ HOK.out).mono ?_
        rintro x w2 ⟨rfl, hb⟩
        have HSx := HS.same hb
        clear HS hb 
        have HS := HSx
        clear HSx
        rw [HSM.out]
        go_upto_region 3 with fail
        go_wp2_with (first | ((with_reducible refine wpList_plain ?_ ?_); exact rfl; intro KK hKK; refine wp_st_load HS 0 0 31 (.tmp 1) rfl rfl rfl (askC X) (slab_whole _) _ Tryd.underlying31 rfl (by rw [size_askC HOK.out]; exact size_ask) (hKK _ _ ?_); clear hKK KK))
        refine (CE.out _).mono ?_
        rintro x w3 ⟨v3, rfl, ho, hb⟩
        obtain ⟨gb, cb9, cb, rfl, hgb, HRb, hcb, hcbt⟩ := own_rowq ho (by rw [HBL.out]; decide)
        have hlt : g1 < _ := (HS.row 0 rfl).lt
        have hlo := Nat.le_trans HS.below.size hgb
        have HSx := HS.same hb
        clear HS hb CE
        have HS := HSx
        clear HSx
        have HSx := HS.join HRb hlo (by intro b hm; cases List.mem_singleton.1 hm; intro e; dsimp only at e; omega)
        have hbl := HRb.lt
        clear HS hlt hlo HRb
        have HS : St w noF [⟨g1, 31, askC X⟩, ⟨gb, 5, cb⟩] w3 := HSx
        clear HSx ho
        have HCBT := Lib.hid hcbt
        rw [HBL.out] at hcb ⊢
        have HCB := Lib.hid hcb
        clear hcb hcbt hgb
        go_upto_region 6 with fail
        go_wp2_with (first | ((with_reducible refine wpList_plain ?_ ?_); exact rfl; intro KK hKK; refine wp_st_load HS 0 1 28 (.tmp 27) rfl rfl rfl (tokCells X.c X.t) (ask_tok X) _ Tryd.underlying28 rfl (by rw [tok_size _ _ HOK.out.t]; exact size_tok) (hKK _ _ ?_); clear hKK KK))
        refine (CT.out _).mono ?_
        rintro x w4 ⟨v5, rfl, ho, hb⟩
        obtain ⟨gt, ct9, ct, rfl, hgt, HRt, hct, hctt⟩ := own_rowq ho (by rw [HL46.out]; decide)
        have hlt : g1 < _ := (HS.row 0 rfl).lt
        have hlo := Nat.le_trans HS.below.size hgt
        have HSx := HS.same hb
        clear HS hb CT
        have HS := HSx
        clear HSx
        have HSx := HS.join HRt hlo (by intro b hm; rcases List.mem_cons.1 hm with rfl | hm; (intro e; dsimp only at e; omega); (cases List.mem_singleton.1 hm; intro e; dsimp only at e; omega))
        clear HS hlt hlo HRt hbl
        have HS : St w noF [⟨g1, 31, askC X⟩, ⟨gb, 5, cb⟩, ⟨gt, 5, ct⟩] w4 := HSx
        clear HSx ho
        have HTSL : Hid (∀ W, Row W gt 5 ct → Slice W (.slice (some ⟨gt, 0, none⟩) 46 ct9) (clmB X.c ++ X.t)) := Lib.hid (fun W h => by have := row_pre h hctt hct; rw [HL46.out] at this; exact this)
        rw [HL46.out]
        clear hgt hct hctt
        have c38 : w4.cell? ⟨g1, 38, none⟩ = some (.string (strB X.v)) := (HS.row 0 rfl).get (ask_38 HOK.out)
        go_wp2_with fail
        refine (pad_any X.v _).mono ?_
        rintro x w5 ⟨rfl, hb⟩
        have HSx := HS.same hb
        clear HS hb c38
        have HS := HSx
        clear HSx
        go_upto_region 8 with (first | ((with_reducible refine wpList_plain ?_ ?_); exact rfl; intro KK hKK; refine wp_st_alloc HS 50 (bs (zer 4)) rfl (.agg (bs (zer 4))) (by kernel_rfl) (rfl) (fun g7 W31 HSx => hKK _ _ ?_); clear hKK KK HS; have HS : St w noF [⟨g1, 31, askC X⟩, ⟨gb, 5, cb⟩, ⟨gt, 5, ct⟩, ⟨g7, 50, bs (zer 4)⟩] W31 := HSx; clear HSx) | ((with_reducible refine wpList_plain ?_ ?_); exact rfl; intro KK hKK; refine wp_st_store HS 3 0 50 (.tmp 7) (.tmp 34) rfl rfl rfl (.agg (bs (padN X.v))) rfl (by rw [show (Value.agg (bs (padN X.v))).cells.size = 4 from by show (bs (padN X.v)).size = 4; rw [size_bs, length_padN]]; exact size_b4) (by show 0 + (bs (padN X.v)).size ≤ (bs (zer 4)).size; rw [size_bs, size_bs, length_padN, length_zer]; decide) (one_bs _) (bs (padN X.v)) (spl_agg _ _ _ rfl (by rw [size_bs, size_bs, length_padN, length_zer])) (fun W32 HSx => hKK _ _ ?_); clear hKK KK HS; have HS : St w noF [⟨g1, 31, askC X⟩, ⟨gb, 5, cb⟩, ⟨gt, 5, ct⟩, ⟨g7, 50, bs (padN X.v)⟩] W32 := HSx; clear HSx))
        have c0 : W32.cell? ⟨g1, 0, none⟩ = some (.int .i64 2) := (HS.row 0 rfl).get (by rw [← HK.out]; rfl)
        go_upto_region 10 with fail
        clear c0
        have hs8 : Slice W32 (.slice (some ⟨gb, 0, none⟩) 84 cb9) (bodA X) := HBD.out ▸ bat_part (bat_row (HS.row 1 rfl) HCBT.out) (by rw [List.drop_zero]) (by rw [List.length_take, HBL.out]; rfl) (by have := HCB.out; omega)
        have CK := check_any [bodA X] _ _ (parts1 hs8) (by simp [maxLen]) (by rw [List.forall_mem_singleton, HBM.out]; decide)
        rw [List.flatten_cons, List.flatten_nil, List.append_nil, HCK.out] at CK
        have k1 : (84 : Int) ≤ (cb9 : Int) := by have := HCB.out; omega
        have k2 : 84 ≤ cb9 := by omega
        have HSx := HS.same ((Below.refl W32.heap.size W32).alloc (Nat.le_refl _) (.cells #[.slice (some ⟨gb, 0, none⟩) 84 cb9] 32))
        clear HS hs8
        go_wp2_with fail
        refine CK.mono ?_
        rintro x w8 ⟨rfl, rfl⟩
        have HS := HSx
        clear HSx CK k1 k2
        go_upto_region 11 with fail
        have hF0 : Wl [(fun W => St w noF [⟨g1, 31, askC X⟩, ⟨gb, 5, cb⟩, ⟨gt, 5, ct⟩, ⟨g7, 50, bs (padN X.v)⟩] W)] 0 (World.drew _) := HS.drew
        clear HS
        refine wp_region_phs [is (.slice (some ⟨gb, 0, none⟩) 86 cb9), is (.pointer (some ⟨gb, 0, none⟩)), is (.int .u8 2), is (.int .i64 2), is (.pointer (some ⟨g1, 0, none⟩)), is (.int .i64 2), is (.bool false), is (.bool false), is (.slice (some ⟨gb, 0, none⟩) 86 cb9), is (.slice (some ⟨gb, 1, none⟩) 46 (cb9 - 1)), is (.slice (some ⟨gt, 0, none⟩) 46 ct9), is (.bool true), is (.bool false), is (.bool false), is (.bool false), is (.slice (some ⟨gb, 0, none⟩) 86 cb9), is (.slice (some ⟨gb, 47, none⟩) 4 (cb9 - 47)), is (.slice (some ⟨g7, 0, none⟩) 4 4), is (.bool true), is (.bool false), is (.bool false), is (.bool false), is (.slice (some ⟨gb, 0, none⟩) 86 cb9), is (.pointer (some ⟨gb, 51, none⟩)), is (.int .u8 z), is (.int .i64 z), is (.pointer (some ⟨g1, 39, none⟩)), is (.int .i64 z), is (.bool false), is (.bool false), is (.bool false), is (.slice (some ⟨gb, 0, none⟩) 86 cb9), is (.slice (some ⟨gb, 0, none⟩) 86 cb9), is (.int .i64 86), is (.int .i64 84), is (.pointer (some ⟨gb, 84, none⟩)), is (.int .u8 (bd k1)), is (.int .u16 (hd K)), is (.int .u8 (bd k1)), is (.bool false), is (.bool false), is (.bool false), is (.slice (some ⟨gb, 0, none⟩) 86 cb9), is (.slice (some ⟨gb, 0, none⟩) 86 cb9), is (.int .i64 86), is (.int .i64 85), is (.pointer (some ⟨gb, 85, none⟩)), is (.int .u8 (bd k2)), is (.int .u16 (hd K)), is (.int .u16 (hd K / 256)), is (.int .u8 (bd k2)), is (.bool false), is (.bool false)] [true, true, true, true, true, true, true, true, true, true, true, true, true, true, true, true, true, true, true, true, true, true, true, true, true, true, true, true, true, true, true, true, true, true, true, true, true, true, true, true, true, true, true, true, true, true, true, true, true, true, true, true, true] [(fun W => St w noF [⟨g1, 31, askC X⟩, ⟨gb, 5, cb⟩, ⟨gt, 5, ct⟩, ⟨g7, 50, bs (padN X.v)⟩] W)] [false, false, false, false, false, false, false, false, false, false, false, false, false, false, false, false, false, false, false, false, false, false, false, false, false, false, false, false, false, false, false, false, false, false, false, false, false, false, false, false, false, false, false, false, false, false, false, false, false, false, false, false, false] [some 0, some 0, some 0, some 0, some 0, some 0, some 0, some 0, some 0, some 0, some 0, some 0, some 0, some 0, some 0, some 0, some 0, some 0, some 0, some 0, some 0, some 0, some 0, some 0, some 0, some 0, some 0, some 0, some 0, some 0, some 0, some 0, some 0, some 0, some 0, some 0, some 0, some 0, some 0, some 0, some 0, some 0, some 0, some 0, some 0, some 0, some 0, some 0, some 0, some 0, some 0, some 0, some 0] [some 63, some 64, some 65, some 66, some 67, some 68, some 69, some 70, some 71, some 72, some 73, some 74, some 75, some 76, some 77, some 78, some 79, some 80, some 81, some 82, some 83, some 84, some 85, some 86, some 87, some 88, some 89, some 90, some 91, some 92, some 93, some 94, some 95, some 96, some 97, some 98, some 99, some 100, some 101, some 102, some 103, some 104, some 105, some 106, some 107, some 108, some 109, some 110, some 111, some 112, some 113, some 114, some 115] 53 0 (fun _ => true) rfl rfl (by kernel_rfl) (by kernel_rfl) (by kernel_rfl) (by kernel_rfl) ?_ ?_ ?_ ?_ ?_ ?_
        · repeat first | exact wok_nil | refine wok_cons (by first | exact fun _ _ h k => h.same k) ?_
        · repeat first | exact vok_nil | refine vok_rig (by first | exact fun _ _ _ h => h) ?_ | refine vok_soft (by first | exact fun _ _ _ h _ => h) ?_
        · exact hF0
        · repeat first | exact all_end (by decide) | refine all_cons (by first | exact rfl | exact ⟨rfl, fun _ _ h => Or.inl h⟩ | exact ⟨rfl, fun _ _ h => Or.inr ⟨h, rfl⟩⟩) ?_
        · refine allp_mild 0 rfl rfl rfl (fun a x W hout hin hP => ?_) ?_
          · have e3 : a.tmps[3]? = some (.slice (some ⟨gb, 0, none⟩) 86 cb9) := (hout 3 (by kernel_rfl)).trans rfl
            exact does_move rfl e3 ⟨Same.refl _, rfl⟩
          refine allp_mild 0 rfl rfl rfl (fun a x W hout hin hP => ?_) ?_
          · have e63 := hin.is 0 63 (by kernel_rfl) (by decide) (by kernel_rfl) (by kernel_rfl) _ rfl
            clear hin hout
            intro K Q hK
            go_simp
            exact hK _ _ ⟨Same.refl _, rfl⟩
          refine allp_mild 0 rfl rfl rfl (fun a x W hout hin hP => ?_) ?_
          · have e64 := hin.is 1 64 (by kernel_rfl) (by decide) (by kernel_rfl) (by kernel_rfl) _ rfl
            have hc : W.cell? ⟨gb, 0, none⟩ = some (.int .u8 2) := by have h := (bat_row (hP.row 1 rfl) HCBT.out).get 0 (by rw [HBL.out]; decide); rw [Nat.zero_add, HY0.out] at h; exact h
            clear hP
            clear hin hout
            intro K Q hK
            go_simp
            exact hK _ _ ⟨Same.refl _, rfl⟩
          refine allp_mild 0 rfl rfl rfl (fun a x W hout hin hP => ?_) ?_
          · have e65 := hin.is 2 65 (by kernel_rfl) (by decide) (by kernel_rfl) (by kernel_rfl) _ rfl
            clear hin hout
            intro K Q hK
            go_simp
            exact hK _ _ ⟨Same.refl _, rfl⟩
          refine allp_mild 0 rfl rfl rfl (fun a x W hout hin hP => ?_) ?_
          · have e1 : a.tmps[1]? = some (.pointer (some ⟨g1, 0, none⟩)) := (hout 1 (by kernel_rfl)).trans rfl
            clear hin hout
            intro K Q hK
            go_simp
            exact hK _ _ ⟨Same.refl _, rfl⟩
          refine allp_mild 0 rfl rfl rfl (fun a x W hout hin hP => ?_) ?_
          · have e67 := hin.is 4 67 (by kernel_rfl) (by decide) (by kernel_rfl) (by kernel_rfl) _ rfl
            have hc : W.cell? ⟨g1, 0, none⟩ = some (.int .i64 2) := (hP.row 0 rfl).get (by rw [← HK.out]; rfl)
            clear hP
            clear hin hout
            intro K Q hK
            go_simp
            exact hK _ _ ⟨Same.refl _, rfl⟩
          refine allp_mild 0 rfl rfl rfl (fun a x W hout hin hP => ?_) ?_
          · have e66 := hin.is 3 66 (by kernel_rfl) (by decide) (by kernel_rfl) (by kernel_rfl) _ rfl
            have e68 := hin.is 5 68 (by kernel_rfl) (by decide) (by kernel_rfl) (by kernel_rfl) _ rfl
            clear hin hout
            intro K Q hK
            go_simp
            exact hK _ _ ⟨Same.refl _, rfl⟩
          refine allp_mild 0 rfl rfl rfl (fun a x W hout hin hP => ?_) ?_
          · have e69 := hin.is 6 69 (by kernel_rfl) (by decide) (by kernel_rfl) (by kernel_rfl) _ rfl
            exact does_move rfl e69 ⟨Same.refl _, rfl⟩
          refine allp_mild 0 rfl rfl rfl (fun a x W hout hin hP => ?_) ?_
          · have e3 : a.tmps[3]? = some (.slice (some ⟨gb, 0, none⟩) 86 cb9) := (hout 3 (by kernel_rfl)).trans rfl
            exact does_move rfl e3 ⟨Same.refl _, rfl⟩
          refine allp_mild 0 rfl rfl rfl (fun a x W hout hin hP => ?_) ?_
          · have e71 := hin.is 8 71 (by kernel_rfl) (by decide) (by kernel_rfl) (by kernel_rfl) _ rfl
            have k1 : (47 : Int) ≤ (cb9 : Int) := by have := HCB.out; omega
            have k2 : (1 : Int) ≤ (cb9 : Int) := by omega
            have k3 : ¬ cb9 = 1 := by omega
            have k4 : 1 ≤ cb9 := by omega
            have k5 : 47 ≤ cb9 := by omega
            clear hin hout
            intro K Q hK
            go_simp
            exact hK _ _ ⟨Same.refl _, rfl⟩
          refine allp_mild 0 rfl rfl rfl (fun a x W hout hin hP => ?_) ?_
          · have e5 : a.tmps[5]? = some (.slice (some ⟨gt, 0, none⟩) 46 ct9) := (hout 5 (by kernel_rfl)).trans rfl
            exact does_move rfl e5 ⟨Same.refl _, rfl⟩
          refine allp_mild 0 rfl rfl rfl (fun a x W hout hin hP => ?_) ?_
          · have e72 := hin.is 9 72 (by kernel_rfl) (by decide) (by kernel_rfl) (by kernel_rfl) _ rfl
            have e73 := hin.is 10 73 (by kernel_rfl) (by decide) (by kernel_rfl) (by kernel_rfl) _ rfl
            have HS1 : Slice W (.slice (some ⟨gb, 1, none⟩) 46 (cb9 - 1)) (clmB X.c ++ X.t) := bat_part (bat_row (hP.row 1 rfl) HCBT.out) HTK.out (HL46.out) (by have := HCB.out; omega)
            have C := keepb_any _ _ (clmB X.c ++ X.t) (clmB X.c ++ X.t) W HS1 (HTSL.out W (hP.row 2 rfl))
            rw [decide_eq_true rfl] at C
            clear hP HS1
            clear hin hout
            intro K Q hK
            go_simp
            refine C.mono ?_
            rintro e W' ⟨rfl, rfl⟩
            exact hK _ _ ⟨Same.refl _, rfl⟩
          refine allp_mild 0 rfl rfl rfl (fun a x W hout hin hP => ?_) ?_
          · have e74 := hin.is 11 74 (by kernel_rfl) (by decide) (by kernel_rfl) (by kernel_rfl) _ rfl
            clear hin hout
            intro K Q hK
            go_simp
            exact hK _ _ ⟨Same.refl _, rfl⟩
          refine allp_mild 0 rfl rfl rfl (fun a x W hout hin hP => ?_) ?_
          · have e70 := hin.is 7 70 (by kernel_rfl) (by decide) (by kernel_rfl) (by kernel_rfl) _ rfl
            have e75 := hin.is 12 75 (by kernel_rfl) (by decide) (by kernel_rfl) (by kernel_rfl) _ rfl
            exact does_pick rfl e70 ⟨Same.refl _, eval_of_get e75⟩
          refine allp_mild 0 rfl rfl rfl (fun a x W hout hin hP => ?_) ?_
          · have e76 := hin.is 13 76 (by kernel_rfl) (by decide) (by kernel_rfl) (by kernel_rfl) _ rfl
            exact does_move rfl e76 ⟨Same.refl _, rfl⟩
          refine allp_mild 0 rfl rfl rfl (fun a x W hout hin hP => ?_) ?_
          · have e3 : a.tmps[3]? = some (.slice (some ⟨gb, 0, none⟩) 86 cb9) := (hout 3 (by kernel_rfl)).trans rfl
            exact does_move rfl e3 ⟨Same.refl _, rfl⟩
          refine allp_mild 0 rfl rfl rfl (fun a x W hout hin hP => ?_) ?_
          · have e78 := hin.is 15 78 (by kernel_rfl) (by decide) (by kernel_rfl) (by kernel_rfl) _ rfl
            have k1 : (51 : Int) ≤ (cb9 : Int) := by have := HCB.out; omega
            have k2 : (47 : Int) ≤ (cb9 : Int) := by omega
            have k3 : ¬ cb9 = 47 := by omega
            have k4 : 47 ≤ cb9 := by omega
            have k5 : 51 ≤ cb9 := by omega
            clear hin hout
            intro K Q hK
            go_simp
            exact hK _ _ ⟨Same.refl _, rfl⟩
          refine allp_mild 0 rfl rfl rfl (fun a x W hout hin hP => ?_) ?_
          · have e7 : a.tmps[7]? = some (.pointer (some ⟨g7, 0, none⟩)) := (hout 7 (by kernel_rfl)).trans rfl
            clear hin hout
            intro K Q hK
            go_simp
            exact hK _ _ ⟨Same.refl _, rfl⟩
          refine allp_mild 0 rfl rfl rfl (fun a x W hout hin hP => ?_) ?_
          · have e79 := hin.is 16 79 (by kernel_rfl) (by decide) (by kernel_rfl) (by kernel_rfl) _ rfl
            have e80 := hin.is 17 80 (by kernel_rfl) (by decide) (by kernel_rfl) (by kernel_rfl) _ rfl
            have HS1 : Slice W (.slice (some ⟨gb, 47, none⟩) 4 (cb9 - 47)) (padN X.v) := bat_part (bat_row (hP.row 1 rfl) HCBT.out) HNM.out (length_padN _) (by have := HCB.out; omega)
            have C := keepb_any _ _ (padN X.v) (padN X.v) W HS1 (row4 (hP.row 3 rfl))
            rw [decide_eq_true rfl] at C
            clear hP HS1
            clear hin hout
            intro K Q hK
            go_simp
            refine C.mono ?_
            rintro e W' ⟨rfl, rfl⟩
            exact hK _ _ ⟨Same.refl _, rfl⟩
          refine allp_mild 0 rfl rfl rfl (fun a x W hout hin hP => ?_) ?_
          · have e81 := hin.is 18 81 (by kernel_rfl) (by decide) (by kernel_rfl) (by kernel_rfl) _ rfl
            clear hin hout
            intro K Q hK
            go_simp
            exact hK _ _ ⟨Same.refl _, rfl⟩
          refine allp_mild 0 rfl rfl rfl (fun a x W hout hin hP => ?_) ?_
          · have e77 := hin.is 14 77 (by kernel_rfl) (by decide) (by kernel_rfl) (by kernel_rfl) _ rfl
            have e82 := hin.is 19 82 (by kernel_rfl) (by decide) (by kernel_rfl) (by kernel_rfl) _ rfl
            exact does_pick rfl e77 ⟨Same.refl _, eval_of_get e82⟩
          refine allp_mild 0 rfl rfl rfl (fun a x W hout hin hP => ?_) ?_
          · have e83 := hin.is 20 83 (by kernel_rfl) (by decide) (by kernel_rfl) (by kernel_rfl) _ rfl
            exact does_move rfl e83 ⟨Same.refl _, rfl⟩
          refine allp_mild 0 rfl rfl rfl (fun a x W hout hin hP => ?_) ?_
          · have e3 : a.tmps[3]? = some (.slice (some ⟨gb, 0, none⟩) 86 cb9) := (hout 3 (by kernel_rfl)).trans rfl
            exact does_move rfl e3 ⟨Same.refl _, rfl⟩
          refine allp_mild 0 rfl rfl rfl (fun a x W hout hin hP => ?_) ?_
          · have e85 := hin.is 22 85 (by kernel_rfl) (by decide) (by kernel_rfl) (by kernel_rfl) _ rfl
            clear hin hout
            intro K Q hK
            go_simp
            exact hK _ _ ⟨Same.refl _, rfl⟩
          refine allp_mild 0 rfl rfl rfl (fun a x W hout hin hP => ?_) ?_
          · have e86 := hin.is 23 86 (by kernel_rfl) (by decide) (by kernel_rfl) (by kernel_rfl) _ rfl
            have hc : W.cell? ⟨gb, 51, none⟩ = some (.int .u8 z) := by have h := (bat_row (hP.row 1 rfl) HCBT.out).get 51 (by rw [HBL.out]; decide); rw [Nat.zero_add, HYZ.out] at h; exact h
            clear hP
            clear hin hout
            intro K Q hK
            go_simp
            exact hK _ _ ⟨Same.refl _, rfl⟩
          refine allp_mild 0 rfl rfl rfl (fun a x W hout hin hP => ?_) ?_
          · have e87 := hin.is 24 87 (by kernel_rfl) (by decide) (by kernel_rfl) (by kernel_rfl) _ rfl
            have hw := HWZ.out
            clear hin hout
            intro K Q hK
            go_simp
            exact hK _ _ ⟨Same.refl _, rfl⟩
          refine allp_mild 0 rfl rfl rfl (fun a x W hout hin hP => ?_) ?_
          · have e1 : a.tmps[1]? = some (.pointer (some ⟨g1, 0, none⟩)) := (hout 1 (by kernel_rfl)).trans rfl
            clear hin hout
            intro K Q hK
            go_simp
            exact hK _ _ ⟨Same.refl _, rfl⟩
          refine allp_mild 0 rfl rfl rfl (fun a x W hout hin hP => ?_) ?_
          · have e89 := hin.is 26 89 (by kernel_rfl) (by decide) (by kernel_rfl) (by kernel_rfl) _ rfl
            have hc : W.cell? ⟨g1, 39, none⟩ = some (.int .i64 z) := (hP.row 0 rfl).get (by rw [← HZ.out]; exact ask_39 HOK.out)
            clear hP
            clear hin hout
            intro K Q hK
            go_simp
            exact hK _ _ ⟨Same.refl _, rfl⟩
          refine allp_mild 0 rfl rfl rfl (fun a x W hout hin hP => ?_) ?_
          · have e88 := hin.is 25 88 (by kernel_rfl) (by decide) (by kernel_rfl) (by kernel_rfl) _ rfl
            have e90 := hin.is 27 90 (by kernel_rfl) (by decide) (by kernel_rfl) (by kernel_rfl) _ rfl
            clear hin hout
            intro K Q hK
            go_simp
            exact hK _ _ ⟨Same.refl _, rfl⟩
          refine allp_mild 0 rfl rfl rfl (fun a x W hout hin hP => ?_) ?_
          · have e84 := hin.is 21 84 (by kernel_rfl) (by decide) (by kernel_rfl) (by kernel_rfl) _ rfl
            have e91 := hin.is 28 91 (by kernel_rfl) (by decide) (by kernel_rfl) (by kernel_rfl) _ rfl
            exact does_pick rfl e84 ⟨Same.refl _, eval_of_get e91⟩
          refine allp_mild 0 rfl rfl rfl (fun a x W hout hin hP => ?_) ?_
          · have e92 := hin.is 29 92 (by kernel_rfl) (by decide) (by kernel_rfl) (by kernel_rfl) _ rfl
            exact does_move rfl e92 ⟨Same.refl _, rfl⟩
          refine allp_mild 0 rfl rfl rfl (fun a x W hout hin hP => ?_) ?_
          · have e3 : a.tmps[3]? = some (.slice (some ⟨gb, 0, none⟩) 86 cb9) := (hout 3 (by kernel_rfl)).trans rfl
            exact does_move rfl e3 ⟨Same.refl _, rfl⟩
          refine allp_mild 0 rfl rfl rfl (fun a x W hout hin hP => ?_) ?_
          · have e3 : a.tmps[3]? = some (.slice (some ⟨gb, 0, none⟩) 86 cb9) := (hout 3 (by kernel_rfl)).trans rfl
            exact does_move rfl e3 ⟨Same.refl _, rfl⟩
          refine allp_mild 0 rfl rfl rfl (fun a x W hout hin hP => ?_) ?_
          · have e95 := hin.is 32 95 (by kernel_rfl) (by decide) (by kernel_rfl) (by kernel_rfl) _ rfl
            clear hin hout
            intro K Q hK
            go_simp
            exact hK _ _ ⟨Same.refl _, rfl⟩
          refine allp_mild 0 rfl rfl rfl (fun a x W hout hin hP => ?_) ?_
          · have e96 := hin.is 33 96 (by kernel_rfl) (by decide) (by kernel_rfl) (by kernel_rfl) _ rfl
            clear hin hout
            intro K Q hK
            go_simp
            exact hK _ _ ⟨Same.refl _, rfl⟩
          refine allp_mild 0 rfl rfl rfl (fun a x W hout hin hP => ?_) ?_
          · have e94 := hin.is 31 94 (by kernel_rfl) (by decide) (by kernel_rfl) (by kernel_rfl) _ rfl
            have e97 := hin.is 34 97 (by kernel_rfl) (by decide) (by kernel_rfl) (by kernel_rfl) _ rfl
            clear hin hout
            intro K Q hK
            go_simp
            exact hK _ _ ⟨Same.refl _, rfl⟩
          refine allp_mild 0 rfl rfl rfl (fun a x W hout hin hP => ?_) ?_
          · have e98 := hin.is 35 98 (by kernel_rfl) (by decide) (by kernel_rfl) (by kernel_rfl) _ rfl
            have hc : W.cell? ⟨gb, 84, none⟩ = some (.int .u8 (bd k1)) := by have h := (bat_row (hP.row 1 rfl) HCBT.out).get 84 (by rw [HBL.out]; decide); rw [Nat.zero_add, HYA.out] at h; exact h
            clear hP
            clear hin hout
            intro K Q hK
            go_simp
            exact hK _ _ ⟨Same.refl _, rfl⟩
          refine allp_mild 0 rfl rfl rfl (fun a x W hout hin hP => ?_) ?_
          · have e8 : a.tmps[8]? = some (.int .u16 (hd K)) := (hout 8 (by kernel_rfl)).trans rfl
            exact does_move rfl e8 ⟨Same.refl _, rfl⟩
          refine allp_mild 0 rfl rfl rfl (fun a x W hout hin hP => ?_) ?_
          · have e100 := hin.is 37 100 (by kernel_rfl) (by decide) (by kernel_rfl) (by kernel_rfl) _ rfl
            have hw := HK1.out
            clear hin hout
            intro K Q hK
            go_simp
            exact hK _ _ ⟨Same.refl _, rfl⟩
          refine allp_mild 0 rfl rfl rfl (fun a x W hout hin hP => ?_) ?_
          · have e99 := hin.is 36 99 (by kernel_rfl) (by decide) (by kernel_rfl) (by kernel_rfl) _ rfl
            have e101 := hin.is 38 101 (by kernel_rfl) (by decide) (by kernel_rfl) (by kernel_rfl) _ rfl
            clear hin hout
            intro K Q hK
            go_simp
            exact hK _ _ ⟨Same.refl _, rfl⟩
          refine allp_mild 0 rfl rfl rfl (fun a x W hout hin hP => ?_) ?_
          · have e93 := hin.is 30 93 (by kernel_rfl) (by decide) (by kernel_rfl) (by kernel_rfl) _ rfl
            have e102 := hin.is 39 102 (by kernel_rfl) (by decide) (by kernel_rfl) (by kernel_rfl) _ rfl
            exact does_pick rfl e93 ⟨Same.refl _, eval_of_get e102⟩
          refine allp_mild 0 rfl rfl rfl (fun a x W hout hin hP => ?_) ?_
          · have e103 := hin.is 40 103 (by kernel_rfl) (by decide) (by kernel_rfl) (by kernel_rfl) _ rfl
            exact does_move rfl e103 ⟨Same.refl _, rfl⟩
          refine allp_mild 0 rfl rfl rfl (fun a x W hout hin hP => ?_) ?_
          · have e3 : a.tmps[3]? = some (.slice (some ⟨gb, 0, none⟩) 86 cb9) := (hout 3 (by kernel_rfl)).trans rfl
            exact does_move rfl e3 ⟨Same.refl _, rfl⟩
          refine allp_mild 0 rfl rfl rfl (fun a x W hout hin hP => ?_) ?_
          · have e3 : a.tmps[3]? = some (.slice (some ⟨gb, 0, none⟩) 86 cb9) := (hout 3 (by kernel_rfl)).trans rfl
            exact does_move rfl e3 ⟨Same.refl _, rfl⟩
          refine allp_mild 0 rfl rfl rfl (fun a x W hout hin hP => ?_) ?_
          · have e106 := hin.is 43 106 (by kernel_rfl) (by decide) (by kernel_rfl) (by kernel_rfl) _ rfl
            clear hin hout
            intro K Q hK
            go_simp
            exact hK _ _ ⟨Same.refl _, rfl⟩
          refine allp_mild 0 rfl rfl rfl (fun a x W hout hin hP => ?_) ?_
          · have e107 := hin.is 44 107 (by kernel_rfl) (by decide) (by kernel_rfl) (by kernel_rfl) _ rfl
            clear hin hout
            intro K Q hK
            go_simp
            exact hK _ _ ⟨Same.refl _, rfl⟩
          refine allp_mild 0 rfl rfl rfl (fun a x W hout hin hP => ?_) ?_
          · have e105 := hin.is 42 105 (by kernel_rfl) (by decide) (by kernel_rfl) (by kernel_rfl) _ rfl
            have e108 := hin.is 45 108 (by kernel_rfl) (by decide) (by kernel_rfl) (by kernel_rfl) _ rfl
            clear hin hout
            intro K Q hK
            go_simp
            exact hK _ _ ⟨Same.refl _, rfl⟩
          refine allp_mild 0 rfl rfl rfl (fun a x W hout hin hP => ?_) ?_
          · have e109 := hin.is 46 109 (by kernel_rfl) (by decide) (by kernel_rfl) (by kernel_rfl) _ rfl
            have hc : W.cell? ⟨gb, 85, none⟩ = some (.int .u8 (bd k2)) := by have h := (bat_row (hP.row 1 rfl) HCBT.out).get 85 (by rw [HBL.out]; decide); rw [Nat.zero_add, HYB.out] at h; exact h
            clear hP
            clear hin hout
            intro K Q hK
            go_simp
            exact hK _ _ ⟨Same.refl _, rfl⟩
          refine allp_mild 0 rfl rfl rfl (fun a x W hout hin hP => ?_) ?_
          · have e8 : a.tmps[8]? = some (.int .u16 (hd K)) := (hout 8 (by kernel_rfl)).trans rfl
            exact does_move rfl e8 ⟨Same.refl _, rfl⟩
          refine allp_mild 0 rfl rfl rfl (fun a x W hout hin hP => ?_) ?_
          · have e111 := hin.is 48 111 (by kernel_rfl) (by decide) (by kernel_rfl) (by kernel_rfl) _ rfl
            clear hin hout
            intro K Q hK
            go_simp
            exact hK _ _ ⟨Same.refl _, rfl⟩
          refine allp_mild 0 rfl rfl rfl (fun a x W hout hin hP => ?_) ?_
          · have e112 := hin.is 49 112 (by kernel_rfl) (by decide) (by kernel_rfl) (by kernel_rfl) _ rfl
            have hw := HK2.out
            clear hin hout
            intro K Q hK
            go_simp
            exact hK _ _ ⟨Same.refl _, rfl⟩
          refine allp_mild 0 rfl rfl rfl (fun a x W hout hin hP => ?_) ?_
          · have e110 := hin.is 47 110 (by kernel_rfl) (by decide) (by kernel_rfl) (by kernel_rfl) _ rfl
            have e113 := hin.is 50 113 (by kernel_rfl) (by decide) (by kernel_rfl) (by kernel_rfl) _ rfl
            clear hin hout
            intro K Q hK
            go_simp
            exact hK _ _ ⟨Same.refl _, rfl⟩
          refine allp_mild 0 rfl rfl rfl (fun a x W hout hin hP => ?_) ?_
          · have e104 := hin.is 41 104 (by kernel_rfl) (by decide) (by kernel_rfl) (by kernel_rfl) _ rfl
            have e114 := hin.is 51 114 (by kernel_rfl) (by decide) (by kernel_rfl) (by kernel_rfl) _ rfl
            exact does_pick rfl e104 ⟨Same.refl _, eval_of_get e114⟩
          exact all_end (by decide)
        · intro x W hP hV
          have hx : x 52 = .bool false := hV 52 (by decide) (.inl (by kernel_rfl))
          have HS := hP
          clear hV hP
          simp only [putL, Act.put, List.setIfInBounds_toArray, List.set_cons_succ, List.set_cons_zero, hx]
          simp only [Nat.zero_add, Nat.reduceAdd]
          refine wpAnyH_done (by kernel_rfl) ?_ _
          clear hx
          go_upto_region 13 with fail
          have hF0 : Wl [(fun W => St w noF [⟨g1, 31, askC X⟩, ⟨gb, 5, cb⟩, ⟨gt, 5, ct⟩, ⟨g7, 50, bs (padN X.v)⟩] W)] 0 (World.drew _) := HS.drew
          clear HS
          refine wp_region_phs [is (.pointer (some ⟨g1, 0, none⟩)), is (.int .i64 2), is (.bool false), is (.bool false), is (.slice (some ⟨gb, 0, none⟩) 86 cb9), is (.slice (some ⟨gb, 52, none⟩) 32 (cb9 - 52)), is (.pointer (some ⟨g1, 40, none⟩)), is (.slice (some ⟨g1, 40, none⟩) 32 32), is (.bool true), is (.bool true), is (.bool true), is (.bool true), is (.bool true), is (.bool true)] [true, true, true, true, true, true, true, true, true, true, true, true, true, true] [(fun W => St w noF [⟨g1, 31, askC X⟩, ⟨gb, 5, cb⟩, ⟨gt, 5, ct⟩, ⟨g7, 50, bs (padN X.v)⟩] W)] [false, false, false, false, false, false, false, false, false, false, false, false, false, false] [some 0, some 0, some 0, some 0, some 0, some 0, some 0, some 0, some 0, some 0, some 0, some 0, some 0, some 0] [some 116, some 117, some 118, some 119, some 120, some 121, some 122, some 123, some 124, some 125, some 126, some 127, some 128, some 2] 14 0 (fun _ => true) rfl rfl (by kernel_rfl) (by kernel_rfl) (by kernel_rfl) (by kernel_rfl) ?_ ?_ ?_ ?_ ?_ ?_
          · repeat first | exact wok_nil | refine wok_cons (by first | exact fun _ _ h k => h.same k) ?_
          · repeat first | exact vok_nil | refine vok_rig (by first | exact fun _ _ _ h => h) ?_ | refine vok_soft (by first | exact fun _ _ _ h _ => h) ?_
          · exact hF0
          · repeat first | exact all_end (by decide) | refine all_cons (by first | exact rfl | exact ⟨rfl, fun _ _ h => Or.inl h⟩ | exact ⟨rfl, fun _ _ h => Or.inr ⟨h, rfl⟩⟩) ?_
          · refine allp_mild 0 rfl rfl rfl (fun a x W hout hin hP => ?_) ?_
            · have e1 : a.tmps[1]? = some (.pointer (some ⟨g1, 0, none⟩)) := (hout 1 (by kernel_rfl)).trans rfl
              clear hin hout
              intro K Q hK
              go_simp
              exact hK _ _ ⟨Same.refl _, rfl⟩
            refine allp_mild 0 rfl rfl rfl (fun a x W hout hin hP => ?_) ?_
            · have e116 := hin.is 0 116 (by kernel_rfl) (by decide) (by kernel_rfl) (by kernel_rfl) _ rfl
              have hc : W.cell? ⟨g1, 0, none⟩ = some (.int .i64 2) := (hP.row 0 rfl).get (by rw [← HK.out]; rfl)
              clear hP
              clear hin hout
              intro K Q hK
              go_simp
              exact hK _ _ ⟨Same.refl _, rfl⟩
            refine allp_mild 0 rfl rfl rfl (fun a x W hout hin hP => ?_) ?_
            · have e117 := hin.is 1 117 (by kernel_rfl) (by decide) (by kernel_rfl) (by kernel_rfl) _ rfl
              clear hin hout
              intro K Q hK
              go_simp
              exact hK _ _ ⟨Same.refl _, rfl⟩
            refine allp_mild 0 rfl rfl rfl (fun a x W hout hin hP => ?_) ?_
            · have e118 := hin.is 2 118 (by kernel_rfl) (by decide) (by kernel_rfl) (by kernel_rfl) _ rfl
              exact does_move rfl e118 ⟨Same.refl _, rfl⟩
            refine allp_mild 0 rfl rfl rfl (fun a x W hout hin hP => ?_) ?_
            · have e3 : a.tmps[3]? = some (.slice (some ⟨gb, 0, none⟩) 86 cb9) := (hout 3 (by kernel_rfl)).trans rfl
              exact does_move rfl e3 ⟨Same.refl _, rfl⟩
            refine allp_mild 0 rfl rfl rfl (fun a x W hout hin hP => ?_) ?_
            · have e120 := hin.is 4 120 (by kernel_rfl) (by decide) (by kernel_rfl) (by kernel_rfl) _ rfl
              have k1 : (84 : Int) ≤ (cb9 : Int) := by have := HCB.out; omega
              have k2 : (52 : Int) ≤ (cb9 : Int) := by omega
              have k3 : ¬ cb9 = 52 := by omega
              have k4 : 52 ≤ cb9 := by omega
              have k5 : 84 ≤ cb9 := by omega
              clear hin hout
              intro K Q hK
              go_simp
              exact hK _ _ ⟨Same.refl _, rfl⟩
            refine allp_mild 0 rfl rfl rfl (fun a x W hout hin hP => ?_) ?_
            · have e1 : a.tmps[1]? = some (.pointer (some ⟨g1, 0, none⟩)) := (hout 1 (by kernel_rfl)).trans rfl
              clear hin hout
              intro K Q hK
              go_simp
              exact hK _ _ ⟨Same.refl _, rfl⟩
            refine allp_mild 0 rfl rfl rfl (fun a x W hout hin hP => ?_) ?_
            · have e122 := hin.is 6 122 (by kernel_rfl) (by decide) (by kernel_rfl) (by kernel_rfl) _ rfl
              clear hin hout
              intro K Q hK
              go_simp
              exact hK _ _ ⟨Same.refl _, rfl⟩
            refine allp_mild 0 rfl rfl rfl (fun a x W hout hin hP => ?_) ?_
            · have e121 := hin.is 5 121 (by kernel_rfl) (by decide) (by kernel_rfl) (by kernel_rfl) _ rfl
              have e123 := hin.is 7 123 (by kernel_rfl) (by decide) (by kernel_rfl) (by kernel_rfl) _ rfl
              have HS1 : Slice W (.slice (some ⟨gb, 52, none⟩) 32 (cb9 - 52)) (X.d) := bat_part (bat_row (hP.row 1 rfl) HCBT.out) HDT.out (HOK.out.d) (by have := HCB.out; omega)
              have C := keepb_any _ _ (X.d) (X.d) W HS1 (ask_slice HOK.out (hP.row 0 rfl))
              rw [decide_eq_true rfl] at C
              clear hP HS1
              clear hin hout
              intro K Q hK
              go_simp
              refine C.mono ?_
              rintro e W' ⟨rfl, rfl⟩
              exact hK _ _ ⟨Same.refl _, rfl⟩
            refine allp_mild 0 rfl rfl rfl (fun a x W hout hin hP => ?_) ?_
            · have e119 := hin.is 3 119 (by kernel_rfl) (by decide) (by kernel_rfl) (by kernel_rfl) _ rfl
              have e124 := hin.is 8 124 (by kernel_rfl) (by decide) (by kernel_rfl) (by kernel_rfl) _ rfl
              exact does_pick rfl e119 ⟨Same.refl _, eval_of_get e124⟩
            refine allp_mild 0 rfl rfl rfl (fun a x W hout hin hP => ?_) ?_
            · have e125 := hin.is 9 125 (by kernel_rfl) (by decide) (by kernel_rfl) (by kernel_rfl) _ rfl
              exact does_move rfl e125 ⟨Same.refl _, rfl⟩
            refine allp_mild 0 rfl rfl rfl (fun a x W hout hin hP => ?_) ?_
            · have C := askwakes_any W
              clear hP
              clear hin hout
              intro K Q hK
              go_simp
              refine C.mono ?_
              rintro e W' ⟨rfl, hb⟩
              exact hK _ _ ⟨hb, rfl⟩
            refine allp_mild 0 rfl rfl rfl (fun a x W hout hin hP => ?_) ?_
            · have e126 := hin.is 10 126 (by kernel_rfl) (by decide) (by kernel_rfl) (by kernel_rfl) _ rfl
              have e127 := hin.is 11 127 (by kernel_rfl) (by decide) (by kernel_rfl) (by kernel_rfl) _ rfl
              exact does_pick rfl e126 ⟨Same.refl _, eval_of_get e127⟩
            refine allp_mild 0 rfl rfl rfl (fun a x W hout hin hP => ?_) ?_
            · have e128 := hin.is 12 128 (by kernel_rfl) (by decide) (by kernel_rfl) (by kernel_rfl) _ rfl
              exact does_assign rfl e128 ⟨Same.refl _, rfl⟩
            exact all_end (by decide)
          · intro x W hP hV
            have hx : x 13 = .bool true := hV 13 (by decide) (.inl (by kernel_rfl))
            have HS := hP
            clear hV hP
            simp only [putL, Act.put, List.setIfInBounds_toArray, List.set_cons_succ, List.set_cons_zero, hx]
            simp only [Nat.zero_add, Nat.reduceAdd]
            refine wpAnyH_done (by kernel_rfl) ?_ _
            clear hx
            go_wp2_with fail
            go_ret
            exact ⟨rfl, HS.below⟩
      · skip
        have HL : (bodA X).length = 52 := by rw [length_bodA HOK.out, hk]; rfl
        obtain ⟨B, hB⟩ : ∃ B, encA X = B := ⟨_, rfl⟩
        obtain ⟨K, hK⟩ : ∃ K, crcOf (bodA X) = K := ⟨_, rfl⟩
        obtain ⟨k1, hk1⟩ : ∃ k1, K.setWidth 8 = k1 := ⟨_, rfl⟩
        obtain ⟨k2, hk2⟩ : ∃ k2, (K >>> 8).setWidth 8 = k2 := ⟨_, rfl⟩
        obtain ⟨z, hz⟩ : ∃ z, X.z = z := ⟨_, rfl⟩
        rw [hz] at hz0 hz1
        have HZ := Lib.hid hz
        have HK := Lib.hid hk
        have HCK := Lib.hid hK
        have HBL : Hid (B.length = 54) := Lib.hid (by rw [← hB]; exact len_encA HL)
        have HY0 : Hid (bd (B.getD 0 0#8) = 1) := Lib.hid (by rw [← hB, enc_kind, hk]; rfl)
        have HYZ : Hid (bd (B.getD 51 0#8) = z) := Lib.hid (by rw [← hB, enc_at HOK.out, hz]; exact bd_byteI hz0 (by omega))
        have HWZ : Hid (IntKind.i64.wrap z = z) := Lib.hid (i64_id _ (by omega) (by omega))
        have HTK : Hid ((B.drop 1).take 46 = clmB X.c ++ X.t) := Lib.hid (by rw [← hB]; exact enc_tok HOK.out)
        have HNM : Hid ((B.drop 47).take 4 = padN X.v) := Lib.hid (by rw [← hB]; exact enc_name HOK.out)

        have HBD : Hid (B.take 52 = bodA X) := Lib.hid (by rw [← hB]; exact enc_body X HL)
        have HBM := Lib.hid HL
        have HYA : Hid (bd (B.getD 52 0#8) = bd k1) := Lib.hid (by rw [← hB, enc_c1 X HL, hK, hk1])
        have HYB : Hid (bd (B.getD 53 0#8) = bd k2) := Lib.hid (by rw [← hB, show (53 : Nat) = 52 + 1 from rfl, enc_c2 X HL, hK, hk2])
        have HK1 : Hid (IntKind.u8.wrap (hd K) = bd k1) := Lib.hid (by rw [lowb_hd, hk1])
        have HK2 : Hid (IntKind.u8.wrap (hd K / (256 : Int)) = bd k2) := Lib.hid (by rw [lowb8_hd, hk2])
        have HL46 : Hid ((clmB X.c ++ X.t).length = 46) := Lib.hid (by rw [List.length_append, length_clmB, HOK.out.t])
        have CE := Lib.hid (fun W => askenc_good X W HOK.out hm)
        rw [hB] at CE
        have CT := Lib.hid (fun W => tokenc_good X.c X.t W HOK.out.t HOK.out.n (mayA_parts hm).1)
        clear hm hz hz0 hz1 hK hB hk1 hk2 HL hk
        go_enter Tryd.func5, Tryd.ntmps5
        go_upto_region 1 with (first | ((with_reducible refine wpList_plain ?_ ?_); exact rfl; intro KK hKK; refine wp_st_box HS 31 (.tmp 0) rfl _ rfl (askC X) (rfl) (fun g1 W1 HSx => hKK _ _ ?_); clear hKK KK HS; have HS : St w noF [⟨g1, 31, askC X⟩] W1 := HSx; clear HSx))
        go_wp2_with (first | ((with_reducible refine wpList_plain ?_ ?_); exact rfl; intro KK hKK; refine wp_st_load HS 0 0 31 (.tmp 1) rfl rfl rfl (askC X) (slab_whole _) _ Tryd.underlying31 rfl (by rw [size_askC HOK.out]; exact size_ask) (hKK _ _ ?_); clear hKK KK))
        refine (asmall_any X _ HOK.out).mono ?_
        rintro x w2 ⟨rfl, hb⟩
        have HSx := HS.same hb
        clear HS hb 
        have HS := HSx
        clear HSx
        rw [HSM.out]
        go_upto_region 3 with fail
        go_wp2_with (first | ((with_reducible refine wpList_plain ?_ ?_); exact rfl; intro KK hKK; refine wp_st_load HS 0 0 31 (.tmp 1) rfl rfl rfl (askC X) (slab_whole _) _ Tryd.underlying31 rfl (by rw [size_askC HOK.out]; exact size_ask) (hKK _ _ ?_); clear hKK KK))
        refine (CE.out _).mono ?_
        rintro x w3 ⟨v3, rfl, ho, hb⟩
        obtain ⟨gb, cb9, cb, rfl, hgb, HRb, hcb, hcbt⟩ := own_rowq ho (by rw [HBL.out]; decide)
        have hlt : g1 < _ := (HS.row 0 rfl).lt
        have hlo := Nat.le_trans HS.below.size hgb
        have HSx := HS.same hb
        clear HS hb CE
        have HS := HSx
        clear HSx
        have HSx := HS.join HRb hlo (by intro b hm; cases List.mem_singleton.1 hm; intro e; dsimp only at e; omega)
        have hbl := HRb.lt
        clear HS hlt hlo HRb
        have HS : St w noF [⟨g1, 31, askC X⟩, ⟨gb, 5, cb⟩] w3 := HSx
        clear HSx ho
        have HCBT := Lib.hid hcbt
        rw [HBL.out] at hcb ⊢
        have HCB := Lib.hid hcb
        clear hcb hcbt hgb
        go_upto_region 6 with fail
        go_wp2_with (first | ((with_reducible refine wpList_plain ?_ ?_); exact rfl; intro KK hKK; refine wp_st_load HS 0 1 28 (.tmp 27) rfl rfl rfl (tokCells X.c X.t) (ask_tok X) _ Tryd.underlying28 rfl (by rw [tok_size _ _ HOK.out.t]; exact size_tok) (hKK _ _ ?_); clear hKK KK))
        refine (CT.out _).mono ?_
        rintro x w4 ⟨v5, rfl, ho, hb⟩
        obtain ⟨gt, ct9, ct, rfl, hgt, HRt, hct, hctt⟩ := own_rowq ho (by rw [HL46.out]; decide)
        have hlt : g1 < _ := (HS.row 0 rfl).lt
        have hlo := Nat.le_trans HS.below.size hgt
        have HSx := HS.same hb
        clear HS hb CT
        have HS := HSx
        clear HSx
        have HSx := HS.join HRt hlo (by intro b hm; rcases List.mem_cons.1 hm with rfl | hm; (intro e; dsimp only at e; omega); (cases List.mem_singleton.1 hm; intro e; dsimp only at e; omega))
        clear HS hlt hlo HRt hbl
        have HS : St w noF [⟨g1, 31, askC X⟩, ⟨gb, 5, cb⟩, ⟨gt, 5, ct⟩] w4 := HSx
        clear HSx ho
        have HTSL : Hid (∀ W, Row W gt 5 ct → Slice W (.slice (some ⟨gt, 0, none⟩) 46 ct9) (clmB X.c ++ X.t)) := Lib.hid (fun W h => by have := row_pre h hctt hct; rw [HL46.out] at this; exact this)
        rw [HL46.out]
        clear hgt hct hctt
        have c38 : w4.cell? ⟨g1, 38, none⟩ = some (.string (strB X.v)) := (HS.row 0 rfl).get (ask_38 HOK.out)
        go_wp2_with fail
        refine (pad_any X.v _).mono ?_
        rintro x w5 ⟨rfl, hb⟩
        have HSx := HS.same hb
        clear HS hb c38
        have HS := HSx
        clear HSx
        go_upto_region 8 with (first | ((with_reducible refine wpList_plain ?_ ?_); exact rfl; intro KK hKK; refine wp_st_alloc HS 50 (bs (zer 4)) rfl (.agg (bs (zer 4))) (by kernel_rfl) (rfl) (fun g7 W31 HSx => hKK _ _ ?_); clear hKK KK HS; have HS : St w noF [⟨g1, 31, askC X⟩, ⟨gb, 5, cb⟩, ⟨gt, 5, ct⟩, ⟨g7, 50, bs (zer 4)⟩] W31 := HSx; clear HSx) | ((with_reducible refine wpList_plain ?_ ?_); exact rfl; intro KK hKK; refine wp_st_store HS 3 0 50 (.tmp 7) (.tmp 34) rfl rfl rfl (.agg (bs (padN X.v))) rfl (by rw [show (Value.agg (bs (padN X.v))).cells.size = 4 from by show (bs (padN X.v)).size = 4; rw [size_bs, length_padN]]; exact size_b4) (by show 0 + (bs (padN X.v)).size ≤ (bs (zer 4)).size; rw [size_bs, size_bs, length_padN, length_zer]; decide) (one_bs _) (bs (padN X.v)) (spl_agg _ _ _ rfl (by rw [size_bs, size_bs, length_padN, length_zer])) (fun W32 HSx => hKK _ _ ?_); clear hKK KK HS; have HS : St w noF [⟨g1, 31, askC X⟩, ⟨gb, 5, cb⟩, ⟨gt, 5, ct⟩, ⟨g7, 50, bs (padN X.v)⟩] W32 := HSx; clear HSx))
        have c0 : W32.cell? ⟨g1, 0, none⟩ = some (.int .i64 1) := (HS.row 0 rfl).get (by rw [← HK.out]; rfl)
        go_upto_region 10 with fail
        clear c0
        have hs8 : Slice W32 (.slice (some ⟨gb, 0, none⟩) 52 cb9) (bodA X) := HBD.out ▸ bat_part (bat_row (HS.row 1 rfl) HCBT.out) (by rw [List.drop_zero]) (by rw [List.length_take, HBL.out]; rfl) (by have := HCB.out; omega)
        have CK := check_any [bodA X] _ _ (parts1 hs8) (by simp [maxLen]) (by rw [List.forall_mem_singleton, HBM.out]; decide)
        rw [List.flatten_cons, List.flatten_nil, List.append_nil, HCK.out] at CK
        have k1 : (52 : Int) ≤ (cb9 : Int) := by have := HCB.out; omega
        have k2 : 52 ≤ cb9 := by omega
        have HSx := HS.same ((Below.refl W32.heap.size W32).alloc (Nat.le_refl _) (.cells #[.slice (some ⟨gb, 0, none⟩) 52 cb9] 32))
        clear HS hs8
        go_wp2_with fail
        refine CK.mono ?_
        rintro x w8 ⟨rfl, rfl⟩
        have HS := HSx
        clear HSx CK k1 k2
        go_upto_region 11 with fail
        have hF0 : Wl [(fun W => St w noF [⟨g1, 31, askC X⟩, ⟨gb, 5, cb⟩, ⟨gt, 5, ct⟩, ⟨g7, 50, bs (padN X.v)⟩] W)] 0 (World.drew _) := HS.drew
        clear HS
        refine wp_region_phs [is (.slice (some ⟨gb, 0, none⟩) 54 cb9), is (.pointer (some ⟨gb, 0, none⟩)), is (.int .u8 1), is (.int .i64 1), is (.pointer (some ⟨g1, 0, none⟩)), is (.int .i64 1), is (.bool false), is (.bool false), is (.slice (some ⟨gb, 0, none⟩) 54 cb9), is (.slice (some ⟨gb, 1, none⟩) 46 (cb9 - 1)), is (.slice (some ⟨gt, 0, none⟩) 46 ct9), is (.bool true), is (.bool false), is (.bool false), is (.bool false), is (.slice (some ⟨gb, 0, none⟩) 54 cb9), is (.slice (some ⟨gb, 47, none⟩) 4 (cb9 - 47)), is (.slice (some ⟨g7, 0, none⟩) 4 4), is (.bool true), is (.bool false), is (.bool false), is (.bool false), is (.slice (some ⟨gb, 0, none⟩) 54 cb9), is (.pointer (some ⟨gb, 51, none⟩)), is (.int .u8 z), is (.int .i64 z), is (.pointer (some ⟨g1, 39, none⟩)), is (.int .i64 z), is (.bool false), is (.bool false), is (.bool false), is (.slice (some ⟨gb, 0, none⟩) 54 cb9), is (.slice (some ⟨gb, 0, none⟩) 54 cb9), is (.int .i64 54), is (.int .i64 52), is (.pointer (some ⟨gb, 52, none⟩)), is (.int .u8 (bd k1)), is (.int .u16 (hd K)), is (.int .u8 (bd k1)), is (.bool false), is (.bool false), is (.bool false), is (.slice (some ⟨gb, 0, none⟩) 54 cb9), is (.slice (some ⟨gb, 0, none⟩) 54 cb9), is (.int .i64 54), is (.int .i64 53), is (.pointer (some ⟨gb, 53, none⟩)), is (.int .u8 (bd k2)), is (.int .u16 (hd K)), is (.int .u16 (hd K / 256)), is (.int .u8 (bd k2)), is (.bool false), is (.bool false)] [true, true, true, true, true, true, true, true, true, true, true, true, true, true, true, true, true, true, true, true, true, true, true, true, true, true, true, true, true, true, true, true, true, true, true, true, true, true, true, true, true, true, true, true, true, true, true, true, true, true, true, true, true] [(fun W => St w noF [⟨g1, 31, askC X⟩, ⟨gb, 5, cb⟩, ⟨gt, 5, ct⟩, ⟨g7, 50, bs (padN X.v)⟩] W)] [false, false, false, false, false, false, false, false, false, false, false, false, false, false, false, false, false, false, false, false, false, false, false, false, false, false, false, false, false, false, false, false, false, false, false, false, false, false, false, false, false, false, false, false, false, false, false, false, false, false, false, false, false] [some 0, some 0, some 0, some 0, some 0, some 0, some 0, some 0, some 0, some 0, some 0, some 0, some 0, some 0, some 0, some 0, some 0, some 0, some 0, some 0, some 0, some 0, some 0, some 0, some 0, some 0, some 0, some 0, some 0, some 0, some 0, some 0, some 0, some 0, some 0, some 0, some 0, some 0, some 0, some 0, some 0, some 0, some 0, some 0, some 0, some 0, some 0, some 0, some 0, some 0, some 0, some 0, some 0] [some 63, some 64, some 65, some 66, some 67, some 68, some 69, some 70, some 71, some 72, some 73, some 74, some 75, some 76, some 77, some 78, some 79, some 80, some 81, some 82, some 83, some 84, some 85, some 86, some 87, some 88, some 89, some 90, some 91, some 92, some 93, some 94, some 95, some 96, some 97, some 98, some 99, some 100, some 101, some 102, some 103, some 104, some 105, some 106, some 107, some 108, some 109, some 110, some 111, some 112, some 113, some 114, some 115] 53 0 (fun _ => true) rfl rfl (by kernel_rfl) (by kernel_rfl) (by kernel_rfl) (by kernel_rfl) ?_ ?_ ?_ ?_ ?_ ?_
        · repeat first | exact wok_nil | refine wok_cons (by first | exact fun _ _ h k => h.same k) ?_
        · repeat first | exact vok_nil | refine vok_rig (by first | exact fun _ _ _ h => h) ?_ | refine vok_soft (by first | exact fun _ _ _ h _ => h) ?_
        · exact hF0
        · repeat first | exact all_end (by decide) | refine all_cons (by first | exact rfl | exact ⟨rfl, fun _ _ h => Or.inl h⟩ | exact ⟨rfl, fun _ _ h => Or.inr ⟨h, rfl⟩⟩) ?_
        · refine allp_mild 0 rfl rfl rfl (fun a x W hout hin hP => ?_) ?_
          · have e3 : a.tmps[3]? = some (.slice (some ⟨gb, 0, none⟩) 54 cb9) := (hout 3 (by kernel_rfl)).trans rfl
            exact does_move rfl e3 ⟨Same.refl _, rfl⟩
          refine allp_mild 0 rfl rfl rfl (fun a x W hout hin hP => ?_) ?_
          · have e63 := hin.is 0 63 (by kernel_rfl) (by decide) (by kernel_rfl) (by kernel_rfl) _ rfl
            clear hin hout
            intro K Q hK
            go_simp
            exact hK _ _ ⟨Same.refl _, rfl⟩
          refine allp_mild 0 rfl rfl rfl (fun a x W hout hin hP => ?_) ?_
          · have e64 := hin.is 1 64 (by kernel_rfl) (by decide) (by kernel_rfl) (by kernel_rfl) _ rfl
            have hc : W.cell? ⟨gb, 0, none⟩ = some (.int .u8 1) := by have h := (bat_row (hP.row 1 rfl) HCBT.out).get 0 (by rw [HBL.out]; decide); rw [Nat.zero_add, HY0.out] at h; exact h
            clear hP
            clear hin hout
            intro K Q hK
            go_simp
            exact hK _ _ ⟨Same.refl _, rfl⟩
          refine allp_mild 0 rfl rfl rfl (fun a x W hout hin hP => ?_) ?_
          · have e65 := hin.is 2 65 (by kernel_rfl) (by decide) (by kernel_rfl) (by kernel_rfl) _ rfl
            clear hin hout
            intro K Q hK
            go_simp
            exact hK _ _ ⟨Same.refl _, rfl⟩
          refine allp_mild 0 rfl rfl rfl (fun a x W hout hin hP => ?_) ?_
          · have e1 : a.tmps[1]? = some (.pointer (some ⟨g1, 0, none⟩)) := (hout 1 (by kernel_rfl)).trans rfl
            clear hin hout
            intro K Q hK
            go_simp
            exact hK _ _ ⟨Same.refl _, rfl⟩
          refine allp_mild 0 rfl rfl rfl (fun a x W hout hin hP => ?_) ?_
          · have e67 := hin.is 4 67 (by kernel_rfl) (by decide) (by kernel_rfl) (by kernel_rfl) _ rfl
            have hc : W.cell? ⟨g1, 0, none⟩ = some (.int .i64 1) := (hP.row 0 rfl).get (by rw [← HK.out]; rfl)
            clear hP
            clear hin hout
            intro K Q hK
            go_simp
            exact hK _ _ ⟨Same.refl _, rfl⟩
          refine allp_mild 0 rfl rfl rfl (fun a x W hout hin hP => ?_) ?_
          · have e66 := hin.is 3 66 (by kernel_rfl) (by decide) (by kernel_rfl) (by kernel_rfl) _ rfl
            have e68 := hin.is 5 68 (by kernel_rfl) (by decide) (by kernel_rfl) (by kernel_rfl) _ rfl
            clear hin hout
            intro K Q hK
            go_simp
            exact hK _ _ ⟨Same.refl _, rfl⟩
          refine allp_mild 0 rfl rfl rfl (fun a x W hout hin hP => ?_) ?_
          · have e69 := hin.is 6 69 (by kernel_rfl) (by decide) (by kernel_rfl) (by kernel_rfl) _ rfl
            exact does_move rfl e69 ⟨Same.refl _, rfl⟩
          refine allp_mild 0 rfl rfl rfl (fun a x W hout hin hP => ?_) ?_
          · have e3 : a.tmps[3]? = some (.slice (some ⟨gb, 0, none⟩) 54 cb9) := (hout 3 (by kernel_rfl)).trans rfl
            exact does_move rfl e3 ⟨Same.refl _, rfl⟩
          refine allp_mild 0 rfl rfl rfl (fun a x W hout hin hP => ?_) ?_
          · have e71 := hin.is 8 71 (by kernel_rfl) (by decide) (by kernel_rfl) (by kernel_rfl) _ rfl
            have k1 : (47 : Int) ≤ (cb9 : Int) := by have := HCB.out; omega
            have k2 : (1 : Int) ≤ (cb9 : Int) := by omega
            have k3 : ¬ cb9 = 1 := by omega
            have k4 : 1 ≤ cb9 := by omega
            have k5 : 47 ≤ cb9 := by omega
            clear hin hout
            intro K Q hK
            go_simp
            exact hK _ _ ⟨Same.refl _, rfl⟩
          refine allp_mild 0 rfl rfl rfl (fun a x W hout hin hP => ?_) ?_
          · have e5 : a.tmps[5]? = some (.slice (some ⟨gt, 0, none⟩) 46 ct9) := (hout 5 (by kernel_rfl)).trans rfl
            exact does_move rfl e5 ⟨Same.refl _, rfl⟩
          refine allp_mild 0 rfl rfl rfl (fun a x W hout hin hP => ?_) ?_
          · have e72 := hin.is 9 72 (by kernel_rfl) (by decide) (by kernel_rfl) (by kernel_rfl) _ rfl
            have e73 := hin.is 10 73 (by kernel_rfl) (by decide) (by kernel_rfl) (by kernel_rfl) _ rfl
            have HS1 : Slice W (.slice (some ⟨gb, 1, none⟩) 46 (cb9 - 1)) (clmB X.c ++ X.t) := bat_part (bat_row (hP.row 1 rfl) HCBT.out) HTK.out (HL46.out) (by have := HCB.out; omega)
            have C := keepb_any _ _ (clmB X.c ++ X.t) (clmB X.c ++ X.t) W HS1 (HTSL.out W (hP.row 2 rfl))
            rw [decide_eq_true rfl] at C
            clear hP HS1
            clear hin hout
            intro K Q hK
            go_simp
            refine C.mono ?_
            rintro e W' ⟨rfl, rfl⟩
            exact hK _ _ ⟨Same.refl _, rfl⟩
          refine allp_mild 0 rfl rfl rfl (fun a x W hout hin hP => ?_) ?_
          · have e74 := hin.is 11 74 (by kernel_rfl) (by decide) (by kernel_rfl) (by kernel_rfl) _ rfl
            clear hin hout
            intro K Q hK
            go_simp
            exact hK _ _ ⟨Same.refl _, rfl⟩
          refine allp_mild 0 rfl rfl rfl (fun a x W hout hin hP => ?_) ?_
          · have e70 := hin.is 7 70 (by kernel_rfl) (by decide) (by kernel_rfl) (by kernel_rfl) _ rfl
            have e75 := hin.is 12 75 (by kernel_rfl) (by decide) (by kernel_rfl) (by kernel_rfl) _ rfl
            exact does_pick rfl e70 ⟨Same.refl _, eval_of_get e75⟩
          refine allp_mild 0 rfl rfl rfl (fun a x W hout hin hP => ?_) ?_
          · have e76 := hin.is 13 76 (by kernel_rfl) (by decide) (by kernel_rfl) (by kernel_rfl) _ rfl
            exact does_move rfl e76 ⟨Same.refl _, rfl⟩
          refine allp_mild 0 rfl rfl rfl (fun a x W hout hin hP => ?_) ?_
          · have e3 : a.tmps[3]? = some (.slice (some ⟨gb, 0, none⟩) 54 cb9) := (hout 3 (by kernel_rfl)).trans rfl
            exact does_move rfl e3 ⟨Same.refl _, rfl⟩
          refine allp_mild 0 rfl rfl rfl (fun a x W hout hin hP => ?_) ?_
          · have e78 := hin.is 15 78 (by kernel_rfl) (by decide) (by kernel_rfl) (by kernel_rfl) _ rfl
            have k1 : (51 : Int) ≤ (cb9 : Int) := by have := HCB.out; omega
            have k2 : (47 : Int) ≤ (cb9 : Int) := by omega
            have k3 : ¬ cb9 = 47 := by omega
            have k4 : 47 ≤ cb9 := by omega
            have k5 : 51 ≤ cb9 := by omega
            clear hin hout
            intro K Q hK
            go_simp
            exact hK _ _ ⟨Same.refl _, rfl⟩
          refine allp_mild 0 rfl rfl rfl (fun a x W hout hin hP => ?_) ?_
          · have e7 : a.tmps[7]? = some (.pointer (some ⟨g7, 0, none⟩)) := (hout 7 (by kernel_rfl)).trans rfl
            clear hin hout
            intro K Q hK
            go_simp
            exact hK _ _ ⟨Same.refl _, rfl⟩
          refine allp_mild 0 rfl rfl rfl (fun a x W hout hin hP => ?_) ?_
          · have e79 := hin.is 16 79 (by kernel_rfl) (by decide) (by kernel_rfl) (by kernel_rfl) _ rfl
            have e80 := hin.is 17 80 (by kernel_rfl) (by decide) (by kernel_rfl) (by kernel_rfl) _ rfl
            have HS1 : Slice W (.slice (some ⟨gb, 47, none⟩) 4 (cb9 - 47)) (padN X.v) := bat_part (bat_row (hP.row 1 rfl) HCBT.out) HNM.out (length_padN _) (by have := HCB.out; omega)
            have C := keepb_any _ _ (padN X.v) (padN X.v) W HS1 (row4 (hP.row 3 rfl))
            rw [decide_eq_true rfl] at C
            clear hP HS1
            clear hin hout
            intro K Q hK
            go_simp
            refine C.mono ?_
            rintro e W' ⟨rfl, rfl⟩
            exact hK _ _ ⟨Same.refl _, rfl⟩
          refine allp_mild 0 rfl rfl rfl (fun a x W hout hin hP => ?_) ?_
          · have e81 := hin.is 18 81 (by kernel_rfl) (by decide) (by kernel_rfl) (by kernel_rfl) _ rfl
            clear hin hout
            intro K Q hK
            go_simp
            exact hK _ _ ⟨Same.refl _, rfl⟩
          refine allp_mild 0 rfl rfl rfl (fun a x W hout hin hP => ?_) ?_
          · have e77 := hin.is 14 77 (by kernel_rfl) (by decide) (by kernel_rfl) (by kernel_rfl) _ rfl
            have e82 := hin.is 19 82 (by kernel_rfl) (by decide) (by kernel_rfl) (by kernel_rfl) _ rfl
            exact does_pick rfl e77 ⟨Same.refl _, eval_of_get e82⟩
          refine allp_mild 0 rfl rfl rfl (fun a x W hout hin hP => ?_) ?_
          · have e83 := hin.is 20 83 (by kernel_rfl) (by decide) (by kernel_rfl) (by kernel_rfl) _ rfl
            exact does_move rfl e83 ⟨Same.refl _, rfl⟩
          refine allp_mild 0 rfl rfl rfl (fun a x W hout hin hP => ?_) ?_
          · have e3 : a.tmps[3]? = some (.slice (some ⟨gb, 0, none⟩) 54 cb9) := (hout 3 (by kernel_rfl)).trans rfl
            exact does_move rfl e3 ⟨Same.refl _, rfl⟩
          refine allp_mild 0 rfl rfl rfl (fun a x W hout hin hP => ?_) ?_
          · have e85 := hin.is 22 85 (by kernel_rfl) (by decide) (by kernel_rfl) (by kernel_rfl) _ rfl
            clear hin hout
            intro K Q hK
            go_simp
            exact hK _ _ ⟨Same.refl _, rfl⟩
          refine allp_mild 0 rfl rfl rfl (fun a x W hout hin hP => ?_) ?_
          · have e86 := hin.is 23 86 (by kernel_rfl) (by decide) (by kernel_rfl) (by kernel_rfl) _ rfl
            have hc : W.cell? ⟨gb, 51, none⟩ = some (.int .u8 z) := by have h := (bat_row (hP.row 1 rfl) HCBT.out).get 51 (by rw [HBL.out]; decide); rw [Nat.zero_add, HYZ.out] at h; exact h
            clear hP
            clear hin hout
            intro K Q hK
            go_simp
            exact hK _ _ ⟨Same.refl _, rfl⟩
          refine allp_mild 0 rfl rfl rfl (fun a x W hout hin hP => ?_) ?_
          · have e87 := hin.is 24 87 (by kernel_rfl) (by decide) (by kernel_rfl) (by kernel_rfl) _ rfl
            have hw := HWZ.out
            clear hin hout
            intro K Q hK
            go_simp
            exact hK _ _ ⟨Same.refl _, rfl⟩
          refine allp_mild 0 rfl rfl rfl (fun a x W hout hin hP => ?_) ?_
          · have e1 : a.tmps[1]? = some (.pointer (some ⟨g1, 0, none⟩)) := (hout 1 (by kernel_rfl)).trans rfl
            clear hin hout
            intro K Q hK
            go_simp
            exact hK _ _ ⟨Same.refl _, rfl⟩
          refine allp_mild 0 rfl rfl rfl (fun a x W hout hin hP => ?_) ?_
          · have e89 := hin.is 26 89 (by kernel_rfl) (by decide) (by kernel_rfl) (by kernel_rfl) _ rfl
            have hc : W.cell? ⟨g1, 39, none⟩ = some (.int .i64 z) := (hP.row 0 rfl).get (by rw [← HZ.out]; exact ask_39 HOK.out)
            clear hP
            clear hin hout
            intro K Q hK
            go_simp
            exact hK _ _ ⟨Same.refl _, rfl⟩
          refine allp_mild 0 rfl rfl rfl (fun a x W hout hin hP => ?_) ?_
          · have e88 := hin.is 25 88 (by kernel_rfl) (by decide) (by kernel_rfl) (by kernel_rfl) _ rfl
            have e90 := hin.is 27 90 (by kernel_rfl) (by decide) (by kernel_rfl) (by kernel_rfl) _ rfl
            clear hin hout
            intro K Q hK
            go_simp
            exact hK _ _ ⟨Same.refl _, rfl⟩
          refine allp_mild 0 rfl rfl rfl (fun a x W hout hin hP => ?_) ?_
          · have e84 := hin.is 21 84 (by kernel_rfl) (by decide) (by kernel_rfl) (by kernel_rfl) _ rfl
            have e91 := hin.is 28 91 (by kernel_rfl) (by decide) (by kernel_rfl) (by kernel_rfl) _ rfl
            exact does_pick rfl e84 ⟨Same.refl _, eval_of_get e91⟩
          refine allp_mild 0 rfl rfl rfl (fun a x W hout hin hP => ?_) ?_
          · have e92 := hin.is 29 92 (by kernel_rfl) (by decide) (by kernel_rfl) (by kernel_rfl) _ rfl
            exact does_move rfl e92 ⟨Same.refl _, rfl⟩
          refine allp_mild 0 rfl rfl rfl (fun a x W hout hin hP => ?_) ?_
          · have e3 : a.tmps[3]? = some (.slice (some ⟨gb, 0, none⟩) 54 cb9) := (hout 3 (by kernel_rfl)).trans rfl
            exact does_move rfl e3 ⟨Same.refl _, rfl⟩
          refine allp_mild 0 rfl rfl rfl (fun a x W hout hin hP => ?_) ?_
          · have e3 : a.tmps[3]? = some (.slice (some ⟨gb, 0, none⟩) 54 cb9) := (hout 3 (by kernel_rfl)).trans rfl
            exact does_move rfl e3 ⟨Same.refl _, rfl⟩
          refine allp_mild 0 rfl rfl rfl (fun a x W hout hin hP => ?_) ?_
          · have e95 := hin.is 32 95 (by kernel_rfl) (by decide) (by kernel_rfl) (by kernel_rfl) _ rfl
            clear hin hout
            intro K Q hK
            go_simp
            exact hK _ _ ⟨Same.refl _, rfl⟩
          refine allp_mild 0 rfl rfl rfl (fun a x W hout hin hP => ?_) ?_
          · have e96 := hin.is 33 96 (by kernel_rfl) (by decide) (by kernel_rfl) (by kernel_rfl) _ rfl
            clear hin hout
            intro K Q hK
            go_simp
            exact hK _ _ ⟨Same.refl _, rfl⟩
          refine allp_mild 0 rfl rfl rfl (fun a x W hout hin hP => ?_) ?_
          · have e94 := hin.is 31 94 (by kernel_rfl) (by decide) (by kernel_rfl) (by kernel_rfl) _ rfl
            have e97 := hin.is 34 97 (by kernel_rfl) (by decide) (by kernel_rfl) (by kernel_rfl) _ rfl
            clear hin hout
            intro K Q hK
            go_simp
            exact hK _ _ ⟨Same.refl _, rfl⟩
          refine allp_mild 0 rfl rfl rfl (fun a x W hout hin hP => ?_) ?_
          · have e98 := hin.is 35 98 (by kernel_rfl) (by decide) (by kernel_rfl) (by kernel_rfl) _ rfl
            have hc : W.cell? ⟨gb, 52, none⟩ = some (.int .u8 (bd k1)) := by have h := (bat_row (hP.row 1 rfl) HCBT.out).get 52 (by rw [HBL.out]; decide); rw [Nat.zero_add, HYA.out] at h; exact h
            clear hP
            clear hin hout
            intro K Q hK
            go_simp
            exact hK _ _ ⟨Same.refl _, rfl⟩
          refine allp_mild 0 rfl rfl rfl (fun a x W hout hin hP => ?_) ?_
          · have e8 : a.tmps[8]? = some (.int .u16 (hd K)) := (hout 8 (by kernel_rfl)).trans rfl
            exact does_move rfl e8 ⟨Same.refl _, rfl⟩
          refine allp_mild 0 rfl rfl rfl (fun a x W hout hin hP => ?_) ?_
          · have e100 := hin.is 37 100 (by kernel_rfl) (by decide) (by kernel_rfl) (by kernel_rfl) _ rfl
            have hw := HK1.out
            clear hin hout
            intro K Q hK
            go_simp
            exact hK _ _ ⟨Same.refl _, rfl⟩
          refine allp_mild 0 rfl rfl rfl (fun a x W hout hin hP => ?_) ?_
          · have e99 := hin.is 36 99 (by kernel_rfl) (by decide) (by kernel_rfl) (by kernel_rfl) _ rfl
            have e101 := hin.is 38 101 (by kernel_rfl) (by decide) (by kernel_rfl) (by kernel_rfl) _ rfl
            clear hin hout
            intro K Q hK
            go_simp
            exact hK _ _ ⟨Same.refl _, rfl⟩
          refine allp_mild 0 rfl rfl rfl (fun a x W hout hin hP => ?_) ?_
          · have e93 := hin.is 30 93 (by kernel_rfl) (by decide) (by kernel_rfl) (by kernel_rfl) _ rfl
            have e102 := hin.is 39 102 (by kernel_rfl) (by decide) (by kernel_rfl) (by kernel_rfl) _ rfl
            exact does_pick rfl e93 ⟨Same.refl _, eval_of_get e102⟩
          refine allp_mild 0 rfl rfl rfl (fun a x W hout hin hP => ?_) ?_
          · have e103 := hin.is 40 103 (by kernel_rfl) (by decide) (by kernel_rfl) (by kernel_rfl) _ rfl
            exact does_move rfl e103 ⟨Same.refl _, rfl⟩
          refine allp_mild 0 rfl rfl rfl (fun a x W hout hin hP => ?_) ?_
          · have e3 : a.tmps[3]? = some (.slice (some ⟨gb, 0, none⟩) 54 cb9) := (hout 3 (by kernel_rfl)).trans rfl
            exact does_move rfl e3 ⟨Same.refl _, rfl⟩
          refine allp_mild 0 rfl rfl rfl (fun a x W hout hin hP => ?_) ?_
          · have e3 : a.tmps[3]? = some (.slice (some ⟨gb, 0, none⟩) 54 cb9) := (hout 3 (by kernel_rfl)).trans rfl
            exact does_move rfl e3 ⟨Same.refl _, rfl⟩
          refine allp_mild 0 rfl rfl rfl (fun a x W hout hin hP => ?_) ?_
          · have e106 := hin.is 43 106 (by kernel_rfl) (by decide) (by kernel_rfl) (by kernel_rfl) _ rfl
            clear hin hout
            intro K Q hK
            go_simp
            exact hK _ _ ⟨Same.refl _, rfl⟩
          refine allp_mild 0 rfl rfl rfl (fun a x W hout hin hP => ?_) ?_
          · have e107 := hin.is 44 107 (by kernel_rfl) (by decide) (by kernel_rfl) (by kernel_rfl) _ rfl
            clear hin hout
            intro K Q hK
            go_simp
            exact hK _ _ ⟨Same.refl _, rfl⟩
          refine allp_mild 0 rfl rfl rfl (fun a x W hout hin hP => ?_) ?_
          · have e105 := hin.is 42 105 (by kernel_rfl) (by decide) (by kernel_rfl) (by kernel_rfl) _ rfl
            have e108 := hin.is 45 108 (by kernel_rfl) (by decide) (by kernel_rfl) (by kernel_rfl) _ rfl
            clear hin hout
            intro K Q hK
            go_simp
            exact hK _ _ ⟨Same.refl _, rfl⟩
          refine allp_mild 0 rfl rfl rfl (fun a x W hout hin hP => ?_) ?_
          · have e109 := hin.is 46 109 (by kernel_rfl) (by decide) (by kernel_rfl) (by kernel_rfl) _ rfl
            have hc : W.cell? ⟨gb, 53, none⟩ = some (.int .u8 (bd k2)) := by have h := (bat_row (hP.row 1 rfl) HCBT.out).get 53 (by rw [HBL.out]; decide); rw [Nat.zero_add, HYB.out] at h; exact h
            clear hP
            clear hin hout
            intro K Q hK
            go_simp
            exact hK _ _ ⟨Same.refl _, rfl⟩
          refine allp_mild 0 rfl rfl rfl (fun a x W hout hin hP => ?_) ?_
          · have e8 : a.tmps[8]? = some (.int .u16 (hd K)) := (hout 8 (by kernel_rfl)).trans rfl
            exact does_move rfl e8 ⟨Same.refl _, rfl⟩
          refine allp_mild 0 rfl rfl rfl (fun a x W hout hin hP => ?_) ?_
          · have e111 := hin.is 48 111 (by kernel_rfl) (by decide) (by kernel_rfl) (by kernel_rfl) _ rfl
            clear hin hout
            intro K Q hK
            go_simp
            exact hK _ _ ⟨Same.refl _, rfl⟩
          refine allp_mild 0 rfl rfl rfl (fun a x W hout hin hP => ?_) ?_
          · have e112 := hin.is 49 112 (by kernel_rfl) (by decide) (by kernel_rfl) (by kernel_rfl) _ rfl
            have hw := HK2.out
            clear hin hout
            intro K Q hK
            go_simp
            exact hK _ _ ⟨Same.refl _, rfl⟩
          refine allp_mild 0 rfl rfl rfl (fun a x W hout hin hP => ?_) ?_
          · have e110 := hin.is 47 110 (by kernel_rfl) (by decide) (by kernel_rfl) (by kernel_rfl) _ rfl
            have e113 := hin.is 50 113 (by kernel_rfl) (by decide) (by kernel_rfl) (by kernel_rfl) _ rfl
            clear hin hout
            intro K Q hK
            go_simp
            exact hK _ _ ⟨Same.refl _, rfl⟩
          refine allp_mild 0 rfl rfl rfl (fun a x W hout hin hP => ?_) ?_
          · have e104 := hin.is 41 104 (by kernel_rfl) (by decide) (by kernel_rfl) (by kernel_rfl) _ rfl
            have e114 := hin.is 51 114 (by kernel_rfl) (by decide) (by kernel_rfl) (by kernel_rfl) _ rfl
            exact does_pick rfl e104 ⟨Same.refl _, eval_of_get e114⟩
          exact all_end (by decide)
        · intro x W hP hV
          have hx : x 52 = .bool false := hV 52 (by decide) (.inl (by kernel_rfl))
          have HS := hP
          clear hV hP
          simp only [putL, Act.put, List.setIfInBounds_toArray, List.set_cons_succ, List.set_cons_zero, hx]
          simp only [Nat.zero_add, Nat.reduceAdd]
          refine wpAnyH_done (by kernel_rfl) ?_ _
          clear hx
          go_upto_region 13 with fail
          have hF0 : Wl [(fun W => St w noF [⟨g1, 31, askC X⟩, ⟨gb, 5, cb⟩, ⟨gt, 5, ct⟩, ⟨g7, 50, bs (padN X.v)⟩] W)] 0 (World.drew _) := HS.drew
          clear HS
          refine wp_region_phs [is (.pointer (some ⟨g1, 0, none⟩)), is (.int .i64 1), is (.bool true), is (.bool true), is undef, is undef, is undef, is undef, is undef, is (.bool true), is (.bool true), is (.bool true), is (.bool true), is (.bool true)] [true, true, true, true, true, true, true, true, true, true, true, true, true, true] [(fun W => St w noF [⟨g1, 31, askC X⟩, ⟨gb, 5, cb⟩, ⟨gt, 5, ct⟩, ⟨g7, 50, bs (padN X.v)⟩] W)] [false, false, false, false, false, false, false, false, false, false, false, false, false, false] [some 0, some 0, some 0, some 0, some 0, some 0, some 0, some 0, some 0, some 0, some 0, some 0, some 0, some 0] [some 116, some 117, some 118, some 119, some 120, some 121, some 122, some 123, some 124, some 125, some 126, some 127, some 128, some 2] 14 0 (fun i => !([4, 5, 6, 7, 8] : List Nat).contains i) rfl rfl (by kernel_rfl) (by kernel_rfl) (by kernel_rfl) (by kernel_rfl) ?_ ?_ ?_ ?_ ?_ ?_
          · repeat first | exact wok_nil | refine wok_cons (by first | exact fun _ _ h k => h.same k) ?_
          · repeat first | exact vok_nil | refine vok_rig (by first | exact fun _ _ _ h => h) ?_ | refine vok_soft (by first | exact fun _ _ _ h _ => h) ?_
          · exact hF0
          · repeat first | exact all_end (by decide) | refine all_cons (by first | exact rfl | exact ⟨rfl, fun _ _ h => Or.inl h⟩ | exact ⟨rfl, fun _ _ h => Or.inr ⟨h, rfl⟩⟩) ?_
          · refine allp_mild 0 rfl rfl rfl (fun a x W hout hin hP => ?_) ?_
            · have e1 : a.tmps[1]? = some (.pointer (some ⟨g1, 0, none⟩)) := (hout 1 (by kernel_rfl)).trans rfl
              clear hin hout
              intro K Q hK
              go_simp
              exact hK _ _ ⟨Same.refl _, rfl⟩
            refine allp_mild 0 rfl rfl rfl (fun a x W hout hin hP => ?_) ?_
            · have e116 := hin.is 0 116 (by kernel_rfl) (by decide) (by kernel_rfl) (by kernel_rfl) _ rfl
              have hc : W.cell? ⟨g1, 0, none⟩ = some (.int .i64 1) := (hP.row 0 rfl).get (by rw [← HK.out]; rfl)
              clear hP
              clear hin hout
              intro K Q hK
              go_simp
              exact hK _ _ ⟨Same.refl _, rfl⟩
            refine allp_mild 0 rfl rfl rfl (fun a x W hout hin hP => ?_) ?_
            · have e117 := hin.is 1 117 (by kernel_rfl) (by decide) (by kernel_rfl) (by kernel_rfl) _ rfl
              clear hin hout
              intro K Q hK
              go_simp
              exact hK _ _ ⟨Same.refl _, rfl⟩
            refine allp_mild 0 rfl rfl rfl (fun a x W hout hin hP => ?_) ?_
            · have e118 := hin.is 2 118 (by kernel_rfl) (by decide) (by kernel_rfl) (by kernel_rfl) _ rfl
              exact does_move rfl e118 ⟨Same.refl _, rfl⟩
            refine allp_skip rfl rfl (fun _ => rfl) ?_
            refine allp_skip rfl rfl (fun _ => rfl) ?_
            refine allp_skip rfl rfl (fun _ => rfl) ?_
            refine allp_skip rfl rfl (fun _ => rfl) ?_
            refine allp_skip rfl rfl (fun _ => rfl) ?_
            refine allp_mild 0 rfl rfl rfl (fun a x W hout hin hP => ?_) ?_
            · have e119 := hin.is 3 119 (by kernel_rfl) (by decide) (by kernel_rfl) (by kernel_rfl) _ rfl
              have e124 := hin.is 8 124 (by kernel_rfl) (by decide) (by kernel_rfl) (by kernel_rfl) _ rfl
              exact does_pick rfl e119 ⟨Same.refl _, rfl⟩
            refine allp_mild 0 rfl rfl rfl (fun a x W hout hin hP => ?_) ?_
            · have e125 := hin.is 9 125 (by kernel_rfl) (by decide) (by kernel_rfl) (by kernel_rfl) _ rfl
              exact does_move rfl e125 ⟨Same.refl _, rfl⟩
            refine allp_mild 0 rfl rfl rfl (fun a x W hout hin hP => ?_) ?_
            · have C := askwakes_any W
              clear hP
              clear hin hout
              intro K Q hK
              go_simp
              refine C.mono ?_
              rintro e W' ⟨rfl, hb⟩
              exact hK _ _ ⟨hb, rfl⟩
            refine allp_mild 0 rfl rfl rfl (fun a x W hout hin hP => ?_) ?_
            · have e126 := hin.is 10 126 (by kernel_rfl) (by decide) (by kernel_rfl) (by kernel_rfl) _ rfl
              have e127 := hin.is 11 127 (by kernel_rfl) (by decide) (by kernel_rfl) (by kernel_rfl) _ rfl
              exact does_pick rfl e126 ⟨Same.refl _, eval_of_get e127⟩
            refine allp_mild 0 rfl rfl rfl (fun a x W hout hin hP => ?_) ?_
            · have e128 := hin.is 12 128 (by kernel_rfl) (by decide) (by kernel_rfl) (by kernel_rfl) _ rfl
              exact does_assign rfl e128 ⟨Same.refl _, rfl⟩
            exact all_end (by decide)
          · intro x W hP hV
            have hx : x 13 = .bool true := hV 13 (by decide) (.inl (by kernel_rfl))
            have HS := hP
            clear hV hP
            simp only [putL, Act.put, List.setIfInBounds_toArray, List.set_cons_succ, List.set_cons_zero, hx]
            simp only [Nat.zero_add, Nat.reduceAdd]
            refine wpAnyH_done (by kernel_rfl) ?_ _
            clear hx
            go_wp2_with fail
            go_ret
            exact ⟨rfl, HS.below⟩
end Go.Proofs.YtobklbfcnbmnmaaDoor

/- Tokens that are handed in, opened. -/
set_option maxRecDepth 4000
namespace Go.Proofs.YtobklbfcnbmnmaaDoor
open Go Go.ChangeShapes Go.WideShapes Go.ChangeAt Go.RowKit
def tok0A : Array Value := #[Value.int .i64 0, Value.string ⟨#[]⟩, Value.int .i64 0, Value.int .u32 0, Value.int .u32 0] ++ bs (zer 32)
def rdClm : Rd (Int × ByteArray × Int × BitVec 32 × BitVec 32 × Unit) := rdCons 1 (rdInt .i64) (rdCons 1 rdStr (rdCons 1 (rdInt .i64) (rdCons 1 rdU32 (rdCons 1 rdU32 rdNil))))
def rdTok : Rd ((Int × ByteArray × Int × BitVec 32 × BitVec 32 × Unit) × List (BitVec 8) × Unit) := rdCons 5 rdClm (rdCons 32 (rdRow 32) rdNil)
theorem cellsI64t : Tryd.prog.cellsOf 3 = 1 := by kernel_rfl
theorem cellsStrt : Tryd.prog.cellsOf 9 = 1 := by kernel_rfl
theorem cellsU32t : Tryd.prog.cellsOf 22 = 1 := by kernel_rfl
theorem cellsClm : Tryd.prog.cellsOf 24 = 5 := by kernel_rfl
theorem cellsDig : Tryd.prog.cellsOf 26 = 32 := by kernel_rfl
theorem opens_clm : Opens Tryd.prog 24 rdClm :=
  opens_struct Tryd.underlying24 (by kernel_rfl) (opensF_cons rfl cellsI64t (opens_int Tryd.underlying3) (opensF_cons rfl cellsStrt (opens_str Tryd.underlying9) (opensF_cons rfl cellsI64t (opens_int Tryd.underlying3) (opensF_cons rfl cellsU32t (opens_u32 Tryd.underlying22) (opensF_cons rfl cellsU32t (opens_u32 Tryd.underlying22) opensF_nil)))))
theorem opens_tok : Opens Tryd.prog 28 rdTok :=
  opens_struct Tryd.underlying28 (by kernel_rfl) (opensF_cons rfl cellsClm opens_clm (opensF_cons rfl cellsDig (opens_row Tryd.underlying26 Tryd.underlying5 (by kernel_rfl) cellsDig) opensF_nil))
theorem clm_at {W : World} {ds : List Value} {x : Int × ByteArray × Int × BitVec 32 × BitVec 32 × Unit} (h : rdClm W ds x) : ∃ c : Clm, ds = (clmCells c).toList ∧ c.n.length ≤ maxLen := by
  obtain ⟨p, s, r, u, g, _⟩ := x
  obtain ⟨c0, d0, rfl, _, ⟨rfl, _⟩, c1, d1, rfl, _, ⟨rfl, hs⟩, c2, d2, rfl, _, ⟨rfl, _⟩, c3, d3, rfl, _, h3, c4, d4, rfl, _, h4, h5⟩ := h
  have h3 : c3 = [.int .u32 (wd u)] := h3
  have h4 : c4 = [.int .u32 (wd g)] := h4
  have h5 : d4 = [] := h5
  subst h3 h4 h5
  obtain ⟨q, hq⟩ := strB_all s
  simp only at hs hq
  refine ⟨⟨p, q, r, u, g⟩, ?_, ?_⟩
  · rw [hq]; rfl
  · rw [hq, strB_size] at hs; exact hs
theorem open_tok {H : Type} {enc : TypeId × Value → H} {W : World} {r : Reach} {base : Nat} {v : Value} {d : DataW H} {ps : List MemPlace} (hval : Value.okWide Tryd.prog W r base 28 v)
    (h : DataW.Trod enc Tryd.prog W 0 (fun _ => true) true 28 v d ps) (hlt : ∀ x ∈ ps, x.block < W.heap.size) :
    ∃ c q, v = .agg (tokCells c q) ∧ q.length = 32 ∧ c.n.length ≤ maxLen := by
  obtain ⟨cs, x, rfl, hx⟩ := open_argRec Tryd.underlying28 opens_tok hval h hlt
  obtain ⟨y, q, _⟩ := x
  obtain ⟨a0, b0, e, _, h0, a1, b1, e1, _, ⟨rfl, hq⟩, h2⟩ := hx
  have h2 : b1 = [] := h2
  subst h2
  obtain ⟨c, rfl, hn⟩ := clm_at h0
  refine ⟨c, q, ?_, hq, hn⟩
  rw [e, e1, List.append_nil]
  unfold tokCells
  congr 1
  apply Array.ext'
  simp [bs, bytesV]
end Go.Proofs.YtobklbfcnbmnmaaDoor

/- Requests that are handed in, opened. -/
set_option maxRecDepth 4000
namespace Go.Proofs.YtobklbfcnbmnmaaDoor
open Go Go.ChangeShapes Go.WideShapes Go.ChangeAt Go.RowKit
def ask0A : Array Value := #[Value.int .i64 0] ++ tok0A ++ #[Value.string ⟨#[]⟩, Value.int .i64 0] ++ bs (zer 32)
def rdAsk : Rd (Int × ((Int × ByteArray × Int × BitVec 32 × BitVec 32 × Unit) × List (BitVec 8) × Unit) × ByteArray × Int × List (BitVec 8) × Unit) := rdCons 1 (rdInt .i64) (rdCons 37 rdTok (rdCons 1 rdStr (rdCons 1 (rdInt .i64) (rdCons 32 (rdRow 32) rdNil))))
theorem cellsTok : Tryd.prog.cellsOf 28 = 37 := by kernel_rfl
theorem cellsBlk16 : Tryd.prog.cellsOf 29 = 32 := by kernel_rfl
theorem opens_ask : Opens Tryd.prog 31 rdAsk :=
  opens_struct Tryd.underlying31 (by kernel_rfl) (opensF_cons rfl cellsI64t (opens_int Tryd.underlying3) (opensF_cons rfl cellsTok opens_tok (opensF_cons rfl cellsStrt (opens_str Tryd.underlying9) (opensF_cons rfl cellsI64t (opens_int Tryd.underlying3) (opensF_cons rfl cellsBlk16 (opens_row Tryd.underlying29 Tryd.underlying5 (by kernel_rfl) cellsBlk16) opensF_nil)))))
theorem tok_at {W : World} {ds : List Value} {x : (Int × ByteArray × Int × BitVec 32 × BitVec 32 × Unit) × List (BitVec 8) × Unit} (h : rdTok W ds x) : ∃ c q, ds = (clmCells c).toList ++ bytesV q ∧ q.length = 32 ∧ c.n.length ≤ maxLen := by
  obtain ⟨y, q, _⟩ := x
  obtain ⟨a0, b0, e, _, h0, a1, b1, e1, _, ⟨rfl, hq⟩, h2⟩ := h
  have h2 : b1 = [] := h2
  subst h2
  obtain ⟨c, rfl, hn⟩ := clm_at h0
  refine ⟨c, q, ?_, hq, hn⟩
  rw [e, e1, List.append_nil]
theorem open_ask16 {H : Type} {enc : TypeId × Value → H} {W : World} {r : Reach} {base : Nat} {v : Value} {d : DataW H} {ps : List MemPlace} (hval : Value.okWide Tryd.prog W r base 31 v)
    (h : DataW.Trod enc Tryd.prog W 0 (fun _ => true) true 31 v d ps) (hlt : ∀ x ∈ ps, x.block < W.heap.size) :
    ∃ X : Asq, v = .agg (askC X) ∧ X.Ok := by
  obtain ⟨cs, x, rfl, hx⟩ := open_argRec Tryd.underlying31 opens_ask hval h hlt
  obtain ⟨k, y, s, z, q, _⟩ := x
  obtain ⟨c0, d0, e0, _, ⟨rfl, _⟩, c1, d1, e1, _, h1, c2, d2, e2, _, ⟨rfl, hs⟩, c3, d3, e3, _, ⟨rfl, _⟩, c4, d4, e4, _, ⟨rfl, hq⟩, h5⟩ := hx
  have h5 : d4 = [] := h5
  subst h5
  obtain ⟨c, t, rfl, ht, hn⟩ := tok_at h1
  obtain ⟨v, hv⟩ := strB_all s
  simp only at hs hq
  refine ⟨⟨k, c, t, v, z, q⟩, ?_, ht, hq, hn, ?_⟩
  · rw [e0, e1, e2, e3, e4, List.append_nil, hv]
    unfold askC askL
    congr 1
  · rw [hv, strB_size] at hs; exact hs
end Go.Proofs.YtobklbfcnbmnmaaDoor

/- A request's bytes and back; a byte turned. -/
set_option maxRecDepth 4000
namespace Go.Proofs.YtobklbfcnbmnmaaDoor
open Go Go.RowKit
theorem ask_len {X : Asq} (h : X.Ok) : (encA X).length = if X.k = 2 then 86 else 54 := by
  have := length_bodA h
  rw [len_encA rfl, this]
  split <;> rfl
theorem len_two {X : Asq} (h : X.Ok) : (encA X).length = 54 ∨ (encA X).length = 86 := by
  rw [ask_len h]
  split
  · exact .inr rfl
  · exact .inl rfl
theorem ask_back {X : Asq} (h : X.Ok) (hm : mayA X = true) : askQ (encA X) = X := by
  obtain ⟨hc, hk, hv, hz0, hz1⟩ := mayA_parts hm
  have d := dec_tok hc h.t
  unfold askQ
  rw [enc_kind, enc_tok h, enc_name h, enc_at h, d.1, d.2.1, cut_name (.inr hv), bd_byteI hz0 (by omega), bd_byteI (z := X.k) (by omega) (by omega), ask_len h]
  rcases hk with hk | ⟨hk, hd⟩
  · rw [if_pos hk, if_pos rfl, enc_dat h hk]
  · rw [if_neg (by rw [hk]; decide), show zer 32 = X.d from hd.symm]
theorem adec_back {X : Asq} (h : X.Ok) (hm : mayA X = true) : decA (encA X) = X ∧ decF (encA X) = 0 := by
  have e := ask_back h hm
  have := adec_yes (q := encA X) (len_two h) (by rw [e]; exact hm) (by rw [e])
  rw [e] at this
  exact this
theorem acrc_at (q : List (BitVec 8)) (k : Nat) (hk : k + 1 < q.length) (u v : BitVec 8) (c : BitVec 16) : crcMore c q = crcMore c (turnedAt q k u v) ↔ u = 0#8 ∧ v = 0#8 := by
  rw [turned_split q k hk u v]
  conv => lhs; lhs; rw [split_at q k hk]
  exact crc_turned _ _ _ _ u v c
theorem enc_crc (X : Asq) : crcMore 0xffff#16 (encA X) = 0xf0b8#16 := crc_full (bodA X)
theorem adec_turn {X : Asq} (h : X.Ok) (hm : mayA X = true) (k : Nat) (hk : k + 1 < (encA X).length) (u v : BitVec 8) : decF (turnedAt (encA X) k u v) = if u = 0#8 ∧ v = 0#8 then 0 else 11 := by
  by_cases hz : u = 0#8 ∧ v = 0#8
  · rw [if_pos hz]
    obtain ⟨rfl, rfl⟩ := hz
    rw [turned_id _ k hk]; exact (adec_back h hm).2
  · rw [if_neg hz]
    unfold decF
    cases ho : askOk (turnedAt (encA X) k u v) with
    | false => rfl
    | true =>
      unfold askOk at ho
      simp only [Bool.and_eq_true, decide_eq_true_eq] at ho
      have e := enc_crc (askQ (turnedAt (encA X) k u v))
      rw [ho.2.2] at e
      exact (hz ((acrc_at _ k hk u v _).1 ((enc_crc X).trans e.symm))).elim
theorem adec_less {X : Asq} (h : X.Ok) : decA ((encA X).take ((encA X).length - 1)) = ask0 ∧ decF ((encA X).take ((encA X).length - 1)) = 11 := by
  refine adec_len ?_
  rw [List.length_take]
  rcases len_two h with e | e <;> rw [e] <;> decide
theorem adec_more {X : Asq} (h : X.Ok) : decA (encA X ++ [0#8]) = ask0 ∧ decF (encA X ++ [0#8]) = 11 := by
  refine adec_len ?_
  rw [List.length_append]
  rcases len_two h with e | e <;> rw [e] <;> decide
end Go.Proofs.YtobklbfcnbmnmaaDoor

/- Two requests compared. -/
set_option maxRecDepth 4000
namespace Go.Proofs.YtobklbfcnbmnmaaDoor
open Go Go.RowKit
theorem eql_tok9 (a b : Clm) (p q : List (BitVec 8)) (hp : p.length = 32) (hq : q.length = 32) (w : World) : (Op.equalIn 9999 28 (.agg (tokCells a p)) (.agg (tokCells b q))).run Tryd.prog w = .ok (decide (a = b ∧ p = q)) w := by
  have hS : Tryd.prog.underlying 28 = some (.struct (Tryd.prog.fieldsOf 28)) := by kernel_rfl
  have h3 : ∀ w, (Op.equalIn 9998 26 (.agg (bs p)) (.agg (bs q))).run Tryd.prog w = .ok (decide (p = q)) w := fun w => equal_bytesD 9996 26 32 p q hp hq Tryd.underlying26 w
  have e : decide (a = b ∧ p = q) = (a.p == b.p && (((strB a.n).toList == (strB b.n).toList) && (a.r == b.r && (wd a.u == wd b.u && (wd a.g == wd b.g && decide (p = q)))))) := by
    rw [str_beq]
    by_cases h : a = b
    · subst h; simp
    · rw [decide_eq_false (fun k => h k.1)]
      symm
      cases hx : (a.p == b.p && (decide (a.n = b.n) && (a.r == b.r && (wd a.u == wd b.u && (wd a.g == wd b.g && decide (p = q)))))) with
      | false => rfl
      | true =>
        simp only [Bool.and_eq_true, beq_iff_eq, decide_eq_true_eq] at hx
        obtain ⟨h1, h2, h3, h4, h5, _⟩ := hx
        obtain ⟨p, n, r, u, g⟩ := a
        obtain ⟨p', n', r', u', g'⟩ := b
        simp only at h1 h2 h3 h4 h5
        exact absurd (by rw [h1, h2, h3, wd_inj h4, wd_inj h5]) h
  rw [e, show (9999 : Nat) = 9998 + 1 from rfl, run_equalIn_agg w 9998 28 _ _ hS (by kernel_rfl)]
  simp only [Program.fieldsOf, Tryd.underlying28]
  go_simp
  rw [take_tok, take_tok, drop_tok a p hp, drop_tok b q hq]
  clear e hp hq
  have u1 := Tryd.underlying22
  have u2 := Tryd.underlying3
  have u3 := Tryd.underlying9
  unfold clmCells
  generalize decide (p = q) = D at *
  generalize bs p = P at *
  generalize bs q = Q at *
  generalize wd a.u = a1
  generalize wd a.g = a2
  generalize wd b.u = b1
  generalize wd b.g = b2
  generalize strB a.n = s
  generalize strB b.n = s'
  generalize a.p = k
  generalize b.p = k'
  generalize a.r = r
  generalize b.r = r'
  go_simp
  cases D <;> by_cases h1 : k = k' <;> by_cases h2 : s.toList = s'.toList <;> by_cases h3 : r = r' <;> by_cases h4 : a1 = b1 <;> by_cases h5 : a2 = b2 <;> simp [h1, h2, h3, h4, h5]
theorem ext_tok {X : Asq} (h : X.Ok) : (askC X).extract 1 38 = tokCells X.c X.t := by
  apply Array.ext'
  rw [Array.toList_extract, List.extract_eq_take_drop, show (38 : Nat) - 1 = (tokCells X.c X.t).size by rw [tok_size _ _ h.t]]
  exact ask_tok X
theorem ext_dat {X : Asq} (h : X.Ok) : (askC X).extract 40 72 = bs X.d := by
  apply Array.ext'
  rw [Array.toList_extract, List.extract_eq_take_drop, show (72 : Nat) - 40 = (bs X.d).size by rw [size_bs, h.d]]
  exact ask_dat h
theorem eql_ask (X Y : Asq) (hx : X.Ok) (hy : Y.Ok) (w : World) : (Op.equalIn 10000 31 (.agg (askC X)) (.agg (askC Y))).run Tryd.prog w = .ok (decide (X = Y)) w := by
  have hS : Tryd.prog.underlying 31 = some (.struct (Tryd.prog.fieldsOf 31)) := by kernel_rfl
  have h2 : ∀ w, (Op.equalIn 9999 28 (.agg (tokCells X.c X.t)) (.agg (tokCells Y.c Y.t))).run Tryd.prog w = .ok (decide (X.c = Y.c ∧ X.t = Y.t)) w := fun w => eql_tok9 X.c Y.c X.t Y.t hx.t hy.t w
  have h3 : ∀ w, (Op.equalIn 9999 29 (.agg (bs X.d)) (.agg (bs Y.d))).run Tryd.prog w = .ok (decide (X.d = Y.d)) w := fun w => equal_bytesD 9997 29 32 X.d Y.d hx.d hy.d Tryd.underlying29 w
  have e : decide (X = Y) = (X.k == Y.k && (decide (X.c = Y.c ∧ X.t = Y.t) && (((strB X.v).toList == (strB Y.v).toList) && (X.z == Y.z && decide (X.d = Y.d))))) := by
    rw [str_beq]
    obtain ⟨k, c, t, v, z, d⟩ := X
    obtain ⟨k', c', t', v', z', d'⟩ := Y
    rw [Bool.eq_iff_iff]
    simp only [Bool.and_eq_true, decide_eq_true_eq, beq_iff_eq, Asq.mk.injEq, and_assoc]
  have s1 := size_askC hx
  have s2 := size_askC hy
  have a0 : (askC X)[0]? = some (.int .i64 X.k) := rfl
  have b0 : (askC Y)[0]? = some (.int .i64 Y.k) := rfl
  have a38 := ask_38 hx
  have b38 := ask_38 hy
  have a39 := ask_39 hx
  have b39 := ask_39 hy
  have a1 := ext_tok hx
  have b1 := ext_tok hy
  have a4 := ext_dat hx
  have b4 := ext_dat hy
  rw [e, show (10000 : Nat) = 9999 + 1 from rfl, run_equalIn_agg w 9999 31 _ _ hS (by kernel_rfl)]
  have u2 := Tryd.underlying3
  have u3 := Tryd.underlying9
  simp only [Program.fieldsOf, Tryd.underlying31]
  clear e hS
  generalize askC X = P at *
  generalize askC Y = Q at *
  generalize decide (X.c = Y.c ∧ X.t = Y.t) = D1 at *
  generalize decide (X.d = Y.d) = D2 at *
  generalize tokCells X.c X.t = T1 at *
  generalize tokCells Y.c Y.t = T2 at *
  generalize bs X.d = S1 at *
  generalize bs Y.d = S2 at *
  generalize strB X.v = v at *
  generalize strB Y.v = v' at *
  generalize X.k = k at *
  generalize Y.k = k' at *
  generalize X.z = z at *
  generalize Y.z = z' at *
  clear hx hy
  obtain ⟨l0, a0⟩ := Array.getElem?_eq_some_iff.1 a0
  obtain ⟨m0, b0⟩ := Array.getElem?_eq_some_iff.1 b0
  obtain ⟨l1, a38⟩ := Array.getElem?_eq_some_iff.1 a38
  obtain ⟨m1, b38⟩ := Array.getElem?_eq_some_iff.1 b38
  obtain ⟨l2, a39⟩ := Array.getElem?_eq_some_iff.1 a39
  obtain ⟨m2, b39⟩ := Array.getElem?_eq_some_iff.1 b39
  go_simp
  cases D1 <;> cases D2 <;> by_cases h1 : k = k' <;> by_cases h2 : v.toList = v'.toList <;> by_cases h3 : z = z' <;> simp [h1, h2, h3]
end Go.Proofs.YtobklbfcnbmnmaaDoor

/- The statement AskTurns: its walk. -/
set_option maxRecDepth 4000
namespace Go.Proofs.YtobklbfcnbmnmaaDoor
open Go Go.RowKit
attribute [local go_sem] xor_bd i64_bd
theorem size_b2 : (Tryd.prog.info? 46).map (·.size) = some 2 := by kernel_rfl
theorem eql_two (u v : BitVec 8) (w : World) : (Op.equalIn 10000 46 (.agg (bs [u, v])) (.agg #[.int .u8 0, .int .u8 0])).run Tryd.prog w = .ok (decide (u = 0#8 ∧ v = 0#8)) w := by
  have h := equal_bytes 46 2 [u, v] [0#8, 0#8] rfl rfl Tryd.underlying46 w
  rw [show decide ([u, v] = [0#8, 0#8]) = decide (u = 0#8 ∧ v = 0#8) by simp] at h
  exact h
theorem take_put {cz : Array Value} {q : List (BitVec 8)} (h : cz.toList.take q.length = bytesV q) {K : Nat} {b : BitVec 8} (_ : K < q.length) : (cz.setIfInBounds K (.int .u8 (bd b))).toList.take q.length = bytesV (q.set K b) := by
  rw [Array.toList_setIfInBounds, List.take_set, h]
  simp [bytesV, List.map_set]
set_option maxRecDepth 20000 in
set_option maxHeartbeats 3200000 in
theorem askturns_walk (X : Asq) (at_ : Int) (u v : BitVec 8) (w : World) (h : X.Ok) : Calls Tryd.prog 4 #[.agg (askC X), .int .i64 at_, .agg (bs [u, v])] w fun x w' => x = .returned (.bool true) ∧ Below w.heap.size w w' := by
  have HOK := Lib.hid h
  clear h
  obtain ⟨cy, hcy⟩ : ∃ c, c = bs [u, v] := ⟨_, rfl⟩
  rw [← hcy]
  have HCYS : Hid (cy.size = 2) := Lib.hid (by rw [hcy]; rfl)
  have HS := St.nil w noF
  cases hsm : (decide (X.c.n.length ≤ 100) && decide (X.v.length ≤ 100)) with
  | false =>
    clear hcy
    go_enter Tryd.func4, Tryd.ntmps4
    go_upto_region 1 with (first | ((with_reducible refine wpList_plain ?_ ?_); exact rfl; intro KK hKK; refine wp_st_box HS 31 (.tmp 0) rfl _ rfl (askC X) (rfl) (fun g1 W1 HSx => hKK _ _ ?_); clear hKK KK HS; have HS : St w noF [⟨g1, 31, askC X⟩] W1 := HSx; clear HSx) | ((with_reducible refine wpList_plain ?_ ?_); exact rfl; intro KK hKK; refine wp_st_box HS 46 (.tmp 2) rfl _ rfl (cy) (rfl) (fun g5 W2 HSx => hKK _ _ ?_); clear hKK KK HS; have HS : St w noF [⟨g1, 31, askC X⟩, ⟨g5, 46, cy⟩] W2 := HSx; clear HSx))
    go_wp2_with (first | ((with_reducible refine wpList_plain ?_ ?_); exact rfl; intro KK hKK; refine wp_st_load HS 0 0 31 (.tmp 3) rfl rfl rfl (askC X) (slab_whole _) _ Tryd.underlying31 rfl (by rw [size_askC HOK.out]; exact size_ask) (hKK _ _ ?_); clear hKK KK))
    refine (asmall_any X _ HOK.out).mono ?_
    rintro x w2 ⟨rfl, hb⟩
    have HSx := HS.same hb
    clear HS hb 
    have HS := HSx
    clear HSx
    rw [hsm]
    go_wp2_with fail
    refine (askwakes_any _).mono ?_
    rintro x9 w99 ⟨rfl, hb⟩
    go_wp2_with fail
    go_ret
    exact ⟨rfl, (HS.same hb).below⟩
  | true =>
    have HSM := Lib.hid hsm
    clear hsm
    cases hm : mayA X with
    | false =>
      have CE := Lib.hid (fun W => askenc_bad X W HOK.out hm)
      clear hm hcy
      go_enter Tryd.func4, Tryd.ntmps4
      go_upto_region 1 with (first | ((with_reducible refine wpList_plain ?_ ?_); exact rfl; intro KK hKK; refine wp_st_box HS 31 (.tmp 0) rfl _ rfl (askC X) (rfl) (fun g1 W1 HSx => hKK _ _ ?_); clear hKK KK HS; have HS : St w noF [⟨g1, 31, askC X⟩] W1 := HSx; clear HSx) | ((with_reducible refine wpList_plain ?_ ?_); exact rfl; intro KK hKK; refine wp_st_box HS 46 (.tmp 2) rfl _ rfl (cy) (rfl) (fun g5 W2 HSx => hKK _ _ ?_); clear hKK KK HS; have HS : St w noF [⟨g1, 31, askC X⟩, ⟨g5, 46, cy⟩] W2 := HSx; clear HSx))
      go_wp2_with (first | ((with_reducible refine wpList_plain ?_ ?_); exact rfl; intro KK hKK; refine wp_st_load HS 0 0 31 (.tmp 3) rfl rfl rfl (askC X) (slab_whole _) _ Tryd.underlying31 rfl (by rw [size_askC HOK.out]; exact size_ask) (hKK _ _ ?_); clear hKK KK))
      refine (asmall_any X _ HOK.out).mono ?_
      rintro x w2 ⟨rfl, hb⟩
      have HSx := HS.same hb
      clear HS hb 
      have HS := HSx
      clear HSx
      rw [HSM.out]
      go_upto_region 3 with fail
      go_wp2_with (first | ((with_reducible refine wpList_plain ?_ ?_); exact rfl; intro KK hKK; refine wp_st_load HS 0 0 31 (.tmp 3) rfl rfl rfl (askC X) (slab_whole _) _ Tryd.underlying31 rfl (by rw [size_askC HOK.out]; exact size_ask) (hKK _ _ ?_); clear hKK KK))
      refine (CE.out _).mono ?_
      rintro x w3 ⟨rfl, hb⟩
      have HSx := HS.same hb
      clear HS hb CE
      have HS := HSx
      clear HSx
      go_wp2_with fail
      refine (askwakes_any _).mono ?_
      rintro x9 w99 ⟨rfl, hb⟩
      go_wp2_with fail
      go_ret
      exact ⟨rfl, (HS.same hb).below⟩
    | true =>
      rcases len_two HOK.out with hl | hl
      · skip
        obtain ⟨B, hB⟩ : ∃ B, encA X = B := ⟨_, rfl⟩
        have HBL : Hid (B.length = 54) := Lib.hid (by rw [← hB]; exact hl)
        have CE := Lib.hid (fun W => askenc_good X W HOK.out hm)
        have DB := adec_back HOK.out hm
        obtain ⟨K, hK⟩ : ∃ K, modK at_ 53 = K := ⟨_, rfl⟩
        have HMOD := Lib.hid (fun w => mod_any at_ 53 w (by omega) (by omega))
        rw [hK] at HMOD
        have hKl : K < 53 := by rw [← hK]; exact modK_lt at_ 53 (by omega)
        have HTN := adec_turn HOK.out hm K (by rw [hl]; omega) u v
        have HLE := adec_less HOK.out
        have HMO := adec_more HOK.out
        rw [hl] at HLE
        rw [hB] at CE DB HTN HLE HMO
        obtain ⟨x0, hx0⟩ : ∃ x, B.getD K 0#8 = x := ⟨_, rfl⟩
        obtain ⟨x1, hx1⟩ : ∃ x, B.getD (K + 1) 0#8 = x := ⟨_, rfl⟩
        obtain ⟨C, hC⟩ : ∃ C, turnedAt B K u v = C := ⟨_, rfl⟩
        have hC2 : (B.set K (x0 ^^^ u)).set (K + 1) (x1 ^^^ v) = C := by rw [← hC, ← hx0, ← hx1]; rfl
        have HCL : Hid (C.length = 54) := Lib.hid (by rw [← hC, length_turnedAt]; exact HBL.out)
        have HCS := Lib.hid hC2
        rw [hC] at HTN
        have HDB : Hid (∀ A cc w, Slice w (.slice A 54 cc) B → Calls Tryd.prog 10 #[.slice A 54 cc] w fun e w' => e = .returned (.tuple #[.agg (askC X), .int .i64 0]) ∧ Below w.heap.size w w') := Lib.hid (fun A cc w hs => by
          have h := askdec_any A 54 cc B w HBL.out hs
          rw [DB.1, DB.2] at h; exact h)
        have HYK : Hid (Asq.Ok (decA C)) := Lib.hid (by
          unfold decA
          split
          · exact ok_askQ (N := 54) HCL.out
          · exact wkOk0)
        obtain ⟨Z, hZ⟩ : ∃ Z, decide (u = 0#8 ∧ v = 0#8) = Z := ⟨_, rfl⟩
        obtain ⟨E, hE⟩ : ∃ E : Int, (if Z = true then 0 else 11) = E := ⟨_, rfl⟩
        have HE := Lib.hid hE
        have HDC : Hid (∀ A cc w, Slice w (.slice A 54 cc) C → Calls Tryd.prog 10 #[.slice A 54 cc] w fun e w' => e = .returned (.tuple #[.agg (askC (decA C)), .int .i64 E]) ∧ Below w.heap.size w w') := Lib.hid (fun A cc w hs => by
          have h := askdec_any A 54 cc C w HCL.out hs
          rw [HTN] at h
          rw [← hE, ← hZ]
          simpa using h)
        have HDL : Hid (∀ A cc w, Slice w (.slice A 53 cc) (B.take 53) → Calls Tryd.prog 10 #[.slice A 53 cc] w fun e w' => e = .returned (.tuple #[.agg (askC ask0), .int .i64 11]) ∧ Below w.heap.size w w') := Lib.hid (fun A cc w hs => by
          have h := askdec_any A 53 cc (B.take 53) w (by rw [List.length_take, HBL.out]; rfl) hs
          rw [HLE.1, HLE.2] at h; exact h)
        have HDM : Hid (∀ A cc w, Slice w (.slice A 55 cc) (B ++ [0#8]) → Calls Tryd.prog 10 #[.slice A 55 cc] w fun e w' => e = .returned (.tuple #[.agg (askC ask0), .int .i64 11]) ∧ Below w.heap.size w w') := Lib.hid (fun A cc w hs => by
          have h := askdec_any A 55 cc (B ++ [0#8]) w (by rw [List.length_append, HBL.out]; rfl) hs
          rw [HMO.1, HMO.2] at h; exact h)
        have HZ2 : Hid (∀ w, (Op.equalIn 10000 46 (.agg cy) (.agg #[.int .u8 0, .int .u8 0])).run Tryd.prog w = .ok Z w) := Lib.hid (fun w => by rw [hcy, ← hZ]; exact eql_two u v w)
        have HEQ : Hid (∀ w, (Op.equalIn 10000 31 (.agg (askC X)) (.agg (askC X))).run Tryd.prog w = .ok true w) := Lib.hid (fun w => by
          have h := eql_ask X X HOK.out HOK.out w
          rw [decide_eq_true rfl] at h; exact h)
        have HX0 := Lib.hid hx0
        have HX1 := Lib.hid hx1
        have HKL := Lib.hid hKl
        have HU : Hid (cy[0]? = some (.int .u8 (bd u))) := Lib.hid (by rw [hcy]; rfl)
        have HV : Hid (cy[1]? = some (.int .u8 (bd v))) := Lib.hid (by rw [hcy]; rfl)
        generalize decA C = Y at *
        clear hm hl hB DB hK hKl HTN HLE HMO hx0 hx1 hC hC2 hZ hE hcy
        go_enter Tryd.func4, Tryd.ntmps4
        go_upto_region 1 with (first | ((with_reducible refine wpList_plain ?_ ?_); exact rfl; intro KK hKK; refine wp_st_box HS 31 (.tmp 0) rfl _ rfl (askC X) (rfl) (fun g1 W1 HSx => hKK _ _ ?_); clear hKK KK HS; have HS : St w noF [⟨g1, 31, askC X⟩] W1 := HSx; clear HSx) | ((with_reducible refine wpList_plain ?_ ?_); exact rfl; intro KK hKK; refine wp_st_box HS 46 (.tmp 2) rfl _ rfl (cy) (rfl) (fun g5 W2 HSx => hKK _ _ ?_); clear hKK KK HS; have HS : St w noF [⟨g1, 31, askC X⟩, ⟨g5, 46, cy⟩] W2 := HSx; clear HSx))
        go_wp2_with (first | ((with_reducible refine wpList_plain ?_ ?_); exact rfl; intro KK hKK; refine wp_st_load HS 0 0 31 (.tmp 3) rfl rfl rfl (askC X) (slab_whole _) _ Tryd.underlying31 rfl (by rw [size_askC HOK.out]; exact size_ask) (hKK _ _ ?_); clear hKK KK))
        refine (asmall_any X _ HOK.out).mono ?_
        rintro x w2 ⟨rfl, hb⟩
        have HSx := HS.same hb
        clear HS hb 
        have HS := HSx
        clear HSx
        rw [HSM.out]
        go_upto_region 3 with fail
        go_wp2_with (first | ((with_reducible refine wpList_plain ?_ ?_); exact rfl; intro KK hKK; refine wp_st_load HS 0 0 31 (.tmp 3) rfl rfl rfl (askC X) (slab_whole _) _ Tryd.underlying31 rfl (by rw [size_askC HOK.out]; exact size_ask) (hKK _ _ ?_); clear hKK KK))
        refine (CE.out _).mono ?_
        rintro x w3 ⟨v3, rfl, ho, hb⟩
        obtain ⟨gb, cb9, cb, rfl, hgq, HRq, hcb, hcbt⟩ := own_rowq ho (by rw [HBL.out]; decide)
        have HSj := (HS.same hb).join HRq (Nat.le_trans HS.below.size hgq) (fun b hm e => by have := HS.lt hm; omega)
        clear HS hb CE HRq hgq ho
        have HS : St w noF [⟨g1, 31, askC X⟩, ⟨g5, 46, cy⟩, ⟨gb, 5, cb⟩] w3 := HSj
        clear HSj
        have HCBT := Lib.hid hcbt
        rw [HBL.out] at hcb ⊢
        have HCB := Lib.hid hcb
        clear hcb hcbt
        have CD := HDB.out (some ⟨gb, 0, none⟩) cb9 w3 ((bat_row (HS.row 2 rfl) HCBT.out).slice HBL.out HCB.out)
        go_upto_region 6 with fail
        go_wp2_with fail
        refine CD.mono ?_
        rintro x w4 ⟨rfl, hb⟩
        have HSx := HS.same hb
        clear HS hb CD HDB
        have HS := HSx
        clear HSx
        go_upto_region 7 with (first | ((with_reducible refine wpList_plain ?_ ?_); exact rfl; intro KK hKK; refine wp_st_alloc HS 31 (askC ask0) rfl (.agg (askC ask0)) (by exact zero_ask) (rfl) (fun g9 W11 HSx => hKK _ _ ?_); clear hKK KK HS; have HS : St w noF [⟨g1, 31, askC X⟩, ⟨g5, 46, cy⟩, ⟨gb, 5, cb⟩, ⟨g9, 31, askC ask0⟩] W11 := HSx; clear HSx) | ((with_reducible refine wpList_plain ?_ ?_); exact rfl; intro KK hKK; refine wp_st_store HS 3 0 31 (.tmp 9) (.tmp 48) rfl rfl rfl (.agg (askC X)) rfl (by rw [show (Value.agg (askC X)).cells.size = 72 from size_askC HOK.out]; exact size_ask) (by rw [Nat.zero_add, show (Value.agg (askC X)).cells.size = 72 from size_askC HOK.out, size_askC wkOk0]; decide) (by exact one_ask _) (askC X) (spl_agg _ _ _ rfl (by rw [size_askC wkOk0, size_askC HOK.out])) (fun W12 HSx => hKK _ _ ?_); clear hKK KK HS; have HS : St w noF [⟨g1, 31, askC X⟩, ⟨g5, 46, cy⟩, ⟨gb, 5, cb⟩, ⟨g9, 31, askC X⟩] W12 := HSx; clear HSx))
        have heq := HEQ.out
        go_upto_region 9 with (first | ((with_reducible refine wplG_row 31 9 g9 31 (askC X) (0, 0) _ ?_ ?_ ?_ Tryd.underlying31 ?_ ?_ ?_); exact rfl; exact rfl; exact HS.row 3 rfl; exact rfl; exact (by rw [size_askC HOK.out]; exact size_ask)) | ((with_reducible refine wplG_row 31 3 g1 31 (askC X) (0, 0) _ ?_ ?_ ?_ Tryd.underlying31 ?_ ?_ ?_); exact rfl; exact rfl; exact HS.row 0 rfl; exact rfl; exact (by rw [size_askC HOK.out]; exact size_ask)))
        clear heq
        go_wp2_with fail
        refine (HMOD.out _).mono ?_
        rintro x w5 ⟨rfl, rfl⟩
        clear HMOD HEQ
        obtain ⟨w5, hw5⟩ : ∃ w5, W12 = w5 := ⟨_, rfl⟩
        rw [hw5] at HS ⊢
        clear hw5
        have hS2 : Slice (w5.alloc (.cells #[] 5)) (.slice (some ⟨gb, 0, none⟩) 54 cb9) B := ((bat_row (HS.row 2 rfl) HCBT.out).call ((Below.refl w5.heap.size w5).alloc (Nat.le_refl _) _)).slice HBL.out HCB.out
        go_upto_region 11 with (at_builtin; refine wpList_append_slice rfl (.tmp 62) (.tmp 63) rfl w5.heap.size _ 0 [] rfl (own_empty w5) (some ⟨gb, 0, none⟩) 54 cb9 B rfl hS2 (fun h => by cases h) (by decide) (by simp) ?_; intro kv w6 own1 hb4; simp only [Nat.zero_add, List.nil_append] at own1; clear hS2)
        obtain ⟨gz, cz9, cz, rfl, hgq, HRq, hcz, hczt⟩ := own_rowq own1 (by decide)
        have hb := ((Below.refl w5.heap.size w5).alloc (Nat.le_refl _) (.cells #[] 5)).trans hb4
        have HSj := (HS.same hb).join HRq (Nat.le_trans HS.below.size hgq) (fun b hm e => by have := HS.lt hm; omega)
        clear HS hb hb4 HRq hgq own1
        have HS : St w noF [⟨g1, 31, askC X⟩, ⟨g5, 46, cy⟩, ⟨gb, 5, cb⟩, ⟨g9, 31, askC X⟩, ⟨gz, 5, cz⟩] w6 := HSj
        clear HSj
        have HCZ := Lib.hid hcz
        have HCZT := Lib.hid hczt
        have k0 : w6.cell? ⟨gz, K, none⟩ = some (.int .u8 (bd x0)) := by have := row_at (HS.row 4 rfl) hczt (m := K) (by rw [HBL.out]; have := HKL.out; omega); rw [← HX0.out]; exact this
        have f0 := (HS.row 4 rfl).free K
        have c0 : w6.cell? ⟨g5, 0, none⟩ = some (.int .u8 (bd u)) := (HS.row 1 rfl).get HU.out
        have b0 : (0 : Int) ≤ (K : Int) := by omega
        have b1 : (K : Int) < 54 := by have := HKL.out; omega
        have b2 : K < 54 := by have := HKL.out; omega
        clear hcz hczt
        go_region
        go_wp2_with fail
        have HSx := HS.upd 4 rfl ((HS.row 4 rfl).put K (.int .u8 (bd (x0 ^^^ u)))) (only_setCell (only_refl _ _) _)
        have HSx := HSx.drew
        clear HS k0 f0 c0
        generalize (w6.setCell ⟨gz, K, none⟩ (.int .u8 (bd (x0 ^^^ u)))).drew = w8 at *
        have HS : St w noF [⟨g1, 31, askC X⟩, ⟨g5, 46, cy⟩, ⟨gb, 5, cb⟩, ⟨g9, 31, askC X⟩, ⟨gz, 5, (cz.setIfInBounds K (.int .u8 (bd (x0 ^^^ u))))⟩] w8 := HSx
        clear HSx
        have t1 := take_put HCZT.out (K := K) (b := x0 ^^^ u) (by rw [HBL.out]; exact b2)
        have k0 : w8.cell? ⟨gz, K + 1, none⟩ = some (.int .u8 (bd x1)) := by
          have := row_at (q := B.set K (x0 ^^^ u)) (HS.row 4 rfl) (by rw [List.length_set]; exact t1) (m := K + 1) (by rw [List.length_set, HBL.out]; have := HKL.out; omega)
          rw [show (B.set K (x0 ^^^ u)).getD (K + 1) 0 = x1 by rw [← HX1.out]; simp [List.getD_eq_getElem?_getD]] at this
          exact this
        have f0 := (HS.row 4 rfl).free (K + 1)
        have c0 : w8.cell? ⟨g5, 1, none⟩ = some (.int .u8 (bd v)) := (HS.row 1 rfl).get HV.out
        have b3 : (0 : Int) ≤ (K : Int) + 1 := by omega
        have b4 : (K : Int) + 1 < 54 := by have := HKL.out; omega
        have b5 : K + 1 < 54 := by have := HKL.out; omega
        go_region
        go_wp2_with fail
        have HSx := HS.upd 4 rfl ((HS.row 4 rfl).put (K + 1) (.int .u8 (bd (x1 ^^^ v)))) (only_setCell (only_refl _ _) _)
        have HSx := HSx.drew
        clear HS k0 f0 c0
        generalize (w8.setCell ⟨gz, K + 1, none⟩ (.int .u8 (bd (x1 ^^^ v)))).drew = w9 at *
        have HS : St w noF [⟨g1, 31, askC X⟩, ⟨g5, 46, cy⟩, ⟨gb, 5, cb⟩, ⟨g9, 31, askC X⟩, ⟨gz, 5, ((cz.setIfInBounds K (.int .u8 (bd (x0 ^^^ u)))).setIfInBounds (K + 1) (.int .u8 (bd (x1 ^^^ v))))⟩] w9 := HSx
        clear HSx
        have t2 := take_put (q := B.set K (x0 ^^^ u)) (by rw [List.length_set]; exact t1) (K := K + 1) (b := x1 ^^^ v) (by rw [List.length_set, HBL.out]; exact b5)
        rw [HCS.out, List.length_set] at t2
        obtain ⟨cz2, hcz2⟩ : ∃ c, ((cz.setIfInBounds K (.int .u8 (bd (x0 ^^^ u)))).setIfInBounds (K + 1) (.int .u8 (bd (x1 ^^^ v)))) = c := ⟨_, rfl⟩
        rw [hcz2] at t2 HS
        have HSZ : Hid (Slice w9 (.slice (some ⟨gz, 0, none⟩) 54 cz9) C) := Lib.hid ((bat_row (HS.row 4 rfl) (by rw [HCL.out, ← HBL.out]; exact t2)).slice HCL.out HCZ.out)
        clear t1 t2 hcz2 b0 b1 b2 b3 b4 b5 HCZT HKL HX0 HX1 HCS
        go_wp2_with fail
        refine (HDC.out _ _ _ HSZ.out).mono ?_
        rintro x w20 ⟨rfl, hb⟩
        have HSx := HS.same hb
        clear HS hb HDC HSZ
        have HS := HSx
        clear HSx
        go_upto_region 14 with (first | ((with_reducible refine wpList_plain ?_ ?_); exact rfl; intro KK hKK; refine wp_st_alloc HS 31 (askC ask0) rfl (.agg (askC ask0)) (by exact zero_ask) (rfl) (fun g13 W21 HSx => hKK _ _ ?_); clear hKK KK HS; have HS : St w noF [⟨g1, 31, askC X⟩, ⟨g5, 46, cy⟩, ⟨gb, 5, cb⟩, ⟨g9, 31, askC X⟩, ⟨gz, 5, cz2⟩, ⟨g13, 31, askC ask0⟩] W21 := HSx; clear HSx) | ((with_reducible refine wpList_plain ?_ ?_); exact rfl; intro KK hKK; refine wp_st_store HS 5 0 31 (.tmp 13) (.tmp 85) rfl rfl rfl (.agg (askC Y)) rfl (by rw [show (Value.agg (askC Y)).cells.size = 72 from size_askC HYK.out]; exact size_ask) (by rw [Nat.zero_add, show (Value.agg (askC Y)).cells.size = 72 from size_askC HYK.out, size_askC wkOk0]; decide) (by exact one_ask _) (askC Y) (spl_agg _ _ _ rfl (by rw [size_askC wkOk0, size_askC HYK.out])) (fun W22 HSx => hKK _ _ ?_); clear hKK KK HS; have HS : St w noF [⟨g1, 31, askC X⟩, ⟨g5, 46, cy⟩, ⟨gb, 5, cb⟩, ⟨g9, 31, askC X⟩, ⟨gz, 5, cz2⟩, ⟨g13, 31, askC Y⟩] W22 := HSx; clear HSx))
        have CL := HDL.out (some ⟨gb, 0, none⟩) cb9 _ (((bat_row (HS.row 2 rfl) HCBT.out).take 53).slice (by rw [List.length_take, HBL.out]; rfl) (by have := HCB.out; omega))
        have k1 : (53 : Int) ≤ (cb9 : Int) := by have := HCB.out; omega
        have k2 : 53 ≤ cb9 := by have := HCB.out; omega
        go_wp2_with fail
        refine CL.mono ?_
        rintro x w21 ⟨rfl, hb⟩
        have HSx := HS.same hb
        clear HS hb CL k1 k2 HDL
        have HS := HSx
        clear HSx
        go_upto_region 15 with (first | ((with_reducible refine wpList_plain ?_ ?_); exact rfl; intro KK hKK; refine wp_st_alloc HS 31 (askC ask0) rfl (.agg (askC ask0)) (by exact zero_ask) (rfl) (fun g15 W23 HSx => hKK _ _ ?_); clear hKK KK HS; have HS : St w noF [⟨g1, 31, askC X⟩, ⟨g5, 46, cy⟩, ⟨gb, 5, cb⟩, ⟨g9, 31, askC X⟩, ⟨gz, 5, cz2⟩, ⟨g13, 31, askC Y⟩, ⟨g15, 31, askC ask0⟩] W23 := HSx; clear HSx) | ((with_reducible refine wpList_plain ?_ ?_); exact rfl; intro KK hKK; refine wp_st_store HS 6 0 31 (.tmp 15) (.tmp 94) rfl rfl rfl (.agg (askC ask0)) rfl (by rw [show (Value.agg (askC ask0)).cells.size = 72 from size_askC wkOk0]; exact size_ask) (Nat.le_refl _) (by exact one_ask _) (askC ask0) (spl_agg _ _ _ rfl rfl) (fun W24 HSx => hKK _ _ ?_); clear hKK KK HS; have HS : St w noF [⟨g1, 31, askC X⟩, ⟨g5, 46, cy⟩, ⟨gb, 5, cb⟩, ⟨g9, 31, askC X⟩, ⟨gz, 5, cz2⟩, ⟨g13, 31, askC Y⟩, ⟨g15, 31, askC ask0⟩] W24 := HSx; clear HSx))
        have hS2 : Slice (W24.alloc (.cells #[] 5)) (.slice (some ⟨gb, 0, none⟩) 54 cb9) B := ((bat_row (HS.row 2 rfl) HCBT.out).call ((Below.refl W24.heap.size W24).alloc (Nat.le_refl _) _)).slice HBL.out HCB.out
        go_wp2_with (first | (at_builtin; refine wpList_append_slice rfl (.tmp 97) (.tmp 98) rfl W24.heap.size _ 0 [] rfl (own_empty W24) (some ⟨gb, 0, none⟩) 54 cb9 B rfl hS2 (fun h => by cases h) (by decide) (by simp) ?_; intro kv w10 own1 hb4; simp only [Nat.zero_add, List.nil_append] at own1; clear hS2; have hb910 := ((Below.refl W24.heap.size W24).alloc (Nat.le_refl _) (.cells #[] 5)).trans hb4; have hS3 : Slice (w10.alloc (.cells #[.int .u8 0] 5)) (.slice (some ⟨w10.heap.size, 0, none⟩) 1 1) [0#8] := row_slice (Row.fresh w10 5 (bs [0#8])) (c := 1) (Nat.le_refl _); have own2 := own1.alloc (.cells #[.int .u8 0] 5); have hb911 := hb910.alloc hb910.size (.cells #[.int .u8 0] 5); clear hb4 hb910 own1) | (at_builtin; refine wpList_append_slice rfl (.tmp 99) (.tmp 100) rfl W24.heap.size _ 54 _ rfl own2 (some ⟨w10.heap.size, 0, none⟩) 1 1 _ rfl hS3 (fun h => by cases h) (by decide) hb911.size ?_; intro kv2 w11 own3 hb4; have hb9 := hb911.trans hb4; clear own2 hS3 hb911 hb4))
        rw [← bytesV_apps] at own3
        have hs5 := own_slice (q := B ++ [0#8]) (by rw [List.length_append, HBL.out]; exact own3)
        obtain ⟨A5, c5, rfl, _⟩ := own_slice_form own3
        have hb := hb9
        have HSx := HS.same hb
        clear HS hb hb9 own3
        have HS := HSx
        clear HSx
        refine (HDM.out A5 c5 w11 hs5).mono ?_
        rintro x w22 ⟨rfl, hb⟩
        have HSx := HS.same hb
        clear HS hb hs5 HDM
        have HS := HSx
        clear HSx
        go_upto_region 16 with (first | ((with_reducible refine wpList_plain ?_ ?_); exact rfl; intro KK hKK; refine wp_st_alloc HS 31 (askC ask0) rfl (.agg (askC ask0)) (by exact zero_ask) (rfl) (fun g17 W25 HSx => hKK _ _ ?_); clear hKK KK HS; have HS : St w noF [⟨g1, 31, askC X⟩, ⟨g5, 46, cy⟩, ⟨gb, 5, cb⟩, ⟨g9, 31, askC X⟩, ⟨gz, 5, cz2⟩, ⟨g13, 31, askC Y⟩, ⟨g15, 31, askC ask0⟩, ⟨g17, 31, askC ask0⟩] W25 := HSx; clear HSx) | ((with_reducible refine wpList_plain ?_ ?_); exact rfl; intro KK hKK; refine wp_st_store HS 7 0 31 (.tmp 17) (.tmp 103) rfl rfl rfl (.agg (askC ask0)) rfl (by rw [show (Value.agg (askC ask0)).cells.size = 72 from size_askC wkOk0]; exact size_ask) (Nat.le_refl _) (by exact one_ask _) (askC ask0) (spl_agg _ _ _ rfl rfl) (fun W26 HSx => hKK _ _ ?_); clear hKK KK HS; have HS : St w noF [⟨g1, 31, askC X⟩, ⟨g5, 46, cy⟩, ⟨gb, 5, cb⟩, ⟨g9, 31, askC X⟩, ⟨gz, 5, cz2⟩, ⟨g13, 31, askC Y⟩, ⟨g15, 31, askC ask0⟩, ⟨g17, 31, askC ask0⟩] W26 := HSx; clear HSx))
        have hz2 := HZ2.out
        have hE := HE.out
        clear HE
        cases Z with
        | true =>
          rw [if_pos rfl] at hE
          subst hE
          go_wp2_with (first | ((with_reducible refine wpList_plain ?_ ?_); exact rfl; intro KK hKK; refine wp_st_load HS 1 0 46 (.tmp 5) rfl rfl rfl (cy) (slab_whole _) _ Tryd.underlying46 rfl (by rw [HCYS.out]; exact size_b2) (hKK _ _ ?_); clear hKK KK))
          refine (askwakes_any _).mono ?_
          rintro x9 w99 ⟨rfl, hb⟩
          go_wp2_with fail
          go_ret
          exact ⟨rfl, (HS.same hb).below⟩
        | false =>
          rw [if_neg Bool.false_ne_true] at hE
          subst hE
          go_wp2_with (first | ((with_reducible refine wpList_plain ?_ ?_); exact rfl; intro KK hKK; refine wp_st_load HS 1 0 46 (.tmp 5) rfl rfl rfl (cy) (slab_whole _) _ Tryd.underlying46 rfl (by rw [HCYS.out]; exact size_b2) (hKK _ _ ?_); clear hKK KK))
          refine (askwakes_any _).mono ?_
          rintro x9 w99 ⟨rfl, hb⟩
          go_wp2_with fail
          go_ret
          exact ⟨rfl, (HS.same hb).below⟩
      · skip
        obtain ⟨B, hB⟩ : ∃ B, encA X = B := ⟨_, rfl⟩
        have HBL : Hid (B.length = 86) := Lib.hid (by rw [← hB]; exact hl)
        have CE := Lib.hid (fun W => askenc_good X W HOK.out hm)
        have DB := adec_back HOK.out hm
        obtain ⟨K, hK⟩ : ∃ K, modK at_ 85 = K := ⟨_, rfl⟩
        have HMOD := Lib.hid (fun w => mod_any at_ 85 w (by omega) (by omega))
        rw [hK] at HMOD
        have hKl : K < 85 := by rw [← hK]; exact modK_lt at_ 85 (by omega)
        have HTN := adec_turn HOK.out hm K (by rw [hl]; omega) u v
        have HLE := adec_less HOK.out
        have HMO := adec_more HOK.out
        rw [hl] at HLE
        rw [hB] at CE DB HTN HLE HMO
        obtain ⟨x0, hx0⟩ : ∃ x, B.getD K 0#8 = x := ⟨_, rfl⟩
        obtain ⟨x1, hx1⟩ : ∃ x, B.getD (K + 1) 0#8 = x := ⟨_, rfl⟩
        obtain ⟨C, hC⟩ : ∃ C, turnedAt B K u v = C := ⟨_, rfl⟩
        have hC2 : (B.set K (x0 ^^^ u)).set (K + 1) (x1 ^^^ v) = C := by rw [← hC, ← hx0, ← hx1]; rfl
        have HCL : Hid (C.length = 86) := Lib.hid (by rw [← hC, length_turnedAt]; exact HBL.out)
        have HCS := Lib.hid hC2
        rw [hC] at HTN
        have HDB : Hid (∀ A cc w, Slice w (.slice A 86 cc) B → Calls Tryd.prog 10 #[.slice A 86 cc] w fun e w' => e = .returned (.tuple #[.agg (askC X), .int .i64 0]) ∧ Below w.heap.size w w') := Lib.hid (fun A cc w hs => by
          have h := askdec_any A 86 cc B w HBL.out hs
          rw [DB.1, DB.2] at h; exact h)
        have HYK : Hid (Asq.Ok (decA C)) := Lib.hid (by
          unfold decA
          split
          · exact ok_askQ (N := 86) HCL.out
          · exact wkOk0)
        obtain ⟨Z, hZ⟩ : ∃ Z, decide (u = 0#8 ∧ v = 0#8) = Z := ⟨_, rfl⟩
        obtain ⟨E, hE⟩ : ∃ E : Int, (if Z = true then 0 else 11) = E := ⟨_, rfl⟩
        have HE := Lib.hid hE
        have HDC : Hid (∀ A cc w, Slice w (.slice A 86 cc) C → Calls Tryd.prog 10 #[.slice A 86 cc] w fun e w' => e = .returned (.tuple #[.agg (askC (decA C)), .int .i64 E]) ∧ Below w.heap.size w w') := Lib.hid (fun A cc w hs => by
          have h := askdec_any A 86 cc C w HCL.out hs
          rw [HTN] at h
          rw [← hE, ← hZ]
          simpa using h)
        have HDL : Hid (∀ A cc w, Slice w (.slice A 85 cc) (B.take 85) → Calls Tryd.prog 10 #[.slice A 85 cc] w fun e w' => e = .returned (.tuple #[.agg (askC ask0), .int .i64 11]) ∧ Below w.heap.size w w') := Lib.hid (fun A cc w hs => by
          have h := askdec_any A 85 cc (B.take 85) w (by rw [List.length_take, HBL.out]; rfl) hs
          rw [HLE.1, HLE.2] at h; exact h)
        have HDM : Hid (∀ A cc w, Slice w (.slice A 87 cc) (B ++ [0#8]) → Calls Tryd.prog 10 #[.slice A 87 cc] w fun e w' => e = .returned (.tuple #[.agg (askC ask0), .int .i64 11]) ∧ Below w.heap.size w w') := Lib.hid (fun A cc w hs => by
          have h := askdec_any A 87 cc (B ++ [0#8]) w (by rw [List.length_append, HBL.out]; rfl) hs
          rw [HMO.1, HMO.2] at h; exact h)
        have HZ2 : Hid (∀ w, (Op.equalIn 10000 46 (.agg cy) (.agg #[.int .u8 0, .int .u8 0])).run Tryd.prog w = .ok Z w) := Lib.hid (fun w => by rw [hcy, ← hZ]; exact eql_two u v w)
        have HEQ : Hid (∀ w, (Op.equalIn 10000 31 (.agg (askC X)) (.agg (askC X))).run Tryd.prog w = .ok true w) := Lib.hid (fun w => by
          have h := eql_ask X X HOK.out HOK.out w
          rw [decide_eq_true rfl] at h; exact h)
        have HX0 := Lib.hid hx0
        have HX1 := Lib.hid hx1
        have HKL := Lib.hid hKl
        have HU : Hid (cy[0]? = some (.int .u8 (bd u))) := Lib.hid (by rw [hcy]; rfl)
        have HV : Hid (cy[1]? = some (.int .u8 (bd v))) := Lib.hid (by rw [hcy]; rfl)
        generalize decA C = Y at *
        clear hm hl hB DB hK hKl HTN HLE HMO hx0 hx1 hC hC2 hZ hE hcy
        go_enter Tryd.func4, Tryd.ntmps4
        go_upto_region 1 with (first | ((with_reducible refine wpList_plain ?_ ?_); exact rfl; intro KK hKK; refine wp_st_box HS 31 (.tmp 0) rfl _ rfl (askC X) (rfl) (fun g1 W1 HSx => hKK _ _ ?_); clear hKK KK HS; have HS : St w noF [⟨g1, 31, askC X⟩] W1 := HSx; clear HSx) | ((with_reducible refine wpList_plain ?_ ?_); exact rfl; intro KK hKK; refine wp_st_box HS 46 (.tmp 2) rfl _ rfl (cy) (rfl) (fun g5 W2 HSx => hKK _ _ ?_); clear hKK KK HS; have HS : St w noF [⟨g1, 31, askC X⟩, ⟨g5, 46, cy⟩] W2 := HSx; clear HSx))
        go_wp2_with (first | ((with_reducible refine wpList_plain ?_ ?_); exact rfl; intro KK hKK; refine wp_st_load HS 0 0 31 (.tmp 3) rfl rfl rfl (askC X) (slab_whole _) _ Tryd.underlying31 rfl (by rw [size_askC HOK.out]; exact size_ask) (hKK _ _ ?_); clear hKK KK))
        refine (asmall_any X _ HOK.out).mono ?_
        rintro x w2 ⟨rfl, hb⟩
        have HSx := HS.same hb
        clear HS hb 
        have HS := HSx
        clear HSx
        rw [HSM.out]
        go_upto_region 3 with fail
        go_wp2_with (first | ((with_reducible refine wpList_plain ?_ ?_); exact rfl; intro KK hKK; refine wp_st_load HS 0 0 31 (.tmp 3) rfl rfl rfl (askC X) (slab_whole _) _ Tryd.underlying31 rfl (by rw [size_askC HOK.out]; exact size_ask) (hKK _ _ ?_); clear hKK KK))
        refine (CE.out _).mono ?_
        rintro x w3 ⟨v3, rfl, ho, hb⟩
        obtain ⟨gb, cb9, cb, rfl, hgq, HRq, hcb, hcbt⟩ := own_rowq ho (by rw [HBL.out]; decide)
        have HSj := (HS.same hb).join HRq (Nat.le_trans HS.below.size hgq) (fun b hm e => by have := HS.lt hm; omega)
        clear HS hb CE HRq hgq ho
        have HS : St w noF [⟨g1, 31, askC X⟩, ⟨g5, 46, cy⟩, ⟨gb, 5, cb⟩] w3 := HSj
        clear HSj
        have HCBT := Lib.hid hcbt
        rw [HBL.out] at hcb ⊢
        have HCB := Lib.hid hcb
        clear hcb hcbt
        have CD := HDB.out (some ⟨gb, 0, none⟩) cb9 w3 ((bat_row (HS.row 2 rfl) HCBT.out).slice HBL.out HCB.out)
        go_upto_region 6 with fail
        go_wp2_with fail
        refine CD.mono ?_
        rintro x w4 ⟨rfl, hb⟩
        have HSx := HS.same hb
        clear HS hb CD HDB
        have HS := HSx
        clear HSx
        go_upto_region 7 with (first | ((with_reducible refine wpList_plain ?_ ?_); exact rfl; intro KK hKK; refine wp_st_alloc HS 31 (askC ask0) rfl (.agg (askC ask0)) (by exact zero_ask) (rfl) (fun g9 W11 HSx => hKK _ _ ?_); clear hKK KK HS; have HS : St w noF [⟨g1, 31, askC X⟩, ⟨g5, 46, cy⟩, ⟨gb, 5, cb⟩, ⟨g9, 31, askC ask0⟩] W11 := HSx; clear HSx) | ((with_reducible refine wpList_plain ?_ ?_); exact rfl; intro KK hKK; refine wp_st_store HS 3 0 31 (.tmp 9) (.tmp 48) rfl rfl rfl (.agg (askC X)) rfl (by rw [show (Value.agg (askC X)).cells.size = 72 from size_askC HOK.out]; exact size_ask) (by rw [Nat.zero_add, show (Value.agg (askC X)).cells.size = 72 from size_askC HOK.out, size_askC wkOk0]; decide) (by exact one_ask _) (askC X) (spl_agg _ _ _ rfl (by rw [size_askC wkOk0, size_askC HOK.out])) (fun W12 HSx => hKK _ _ ?_); clear hKK KK HS; have HS : St w noF [⟨g1, 31, askC X⟩, ⟨g5, 46, cy⟩, ⟨gb, 5, cb⟩, ⟨g9, 31, askC X⟩] W12 := HSx; clear HSx))
        have heq := HEQ.out
        go_upto_region 9 with (first | ((with_reducible refine wplG_row 31 9 g9 31 (askC X) (0, 0) _ ?_ ?_ ?_ Tryd.underlying31 ?_ ?_ ?_); exact rfl; exact rfl; exact HS.row 3 rfl; exact rfl; exact (by rw [size_askC HOK.out]; exact size_ask)) | ((with_reducible refine wplG_row 31 3 g1 31 (askC X) (0, 0) _ ?_ ?_ ?_ Tryd.underlying31 ?_ ?_ ?_); exact rfl; exact rfl; exact HS.row 0 rfl; exact rfl; exact (by rw [size_askC HOK.out]; exact size_ask)))
        clear heq
        go_wp2_with fail
        refine (HMOD.out _).mono ?_
        rintro x w5 ⟨rfl, rfl⟩
        clear HMOD HEQ
        obtain ⟨w5, hw5⟩ : ∃ w5, W12 = w5 := ⟨_, rfl⟩
        rw [hw5] at HS ⊢
        clear hw5
        have hS2 : Slice (w5.alloc (.cells #[] 5)) (.slice (some ⟨gb, 0, none⟩) 86 cb9) B := ((bat_row (HS.row 2 rfl) HCBT.out).call ((Below.refl w5.heap.size w5).alloc (Nat.le_refl _) _)).slice HBL.out HCB.out
        go_upto_region 11 with (at_builtin; refine wpList_append_slice rfl (.tmp 62) (.tmp 63) rfl w5.heap.size _ 0 [] rfl (own_empty w5) (some ⟨gb, 0, none⟩) 86 cb9 B rfl hS2 (fun h => by cases h) (by decide) (by simp) ?_; intro kv w6 own1 hb4; simp only [Nat.zero_add, List.nil_append] at own1; clear hS2)
        obtain ⟨gz, cz9, cz, rfl, hgq, HRq, hcz, hczt⟩ := own_rowq own1 (by decide)
        have hb := ((Below.refl w5.heap.size w5).alloc (Nat.le_refl _) (.cells #[] 5)).trans hb4
        have HSj := (HS.same hb).join HRq (Nat.le_trans HS.below.size hgq) (fun b hm e => by have := HS.lt hm; omega)
        clear HS hb hb4 HRq hgq own1
        have HS : St w noF [⟨g1, 31, askC X⟩, ⟨g5, 46, cy⟩, ⟨gb, 5, cb⟩, ⟨g9, 31, askC X⟩, ⟨gz, 5, cz⟩] w6 := HSj
        clear HSj
        have HCZ := Lib.hid hcz
        have HCZT := Lib.hid hczt
        have k0 : w6.cell? ⟨gz, K, none⟩ = some (.int .u8 (bd x0)) := by have := row_at (HS.row 4 rfl) hczt (m := K) (by rw [HBL.out]; have := HKL.out; omega); rw [← HX0.out]; exact this
        have f0 := (HS.row 4 rfl).free K
        have c0 : w6.cell? ⟨g5, 0, none⟩ = some (.int .u8 (bd u)) := (HS.row 1 rfl).get HU.out
        have b0 : (0 : Int) ≤ (K : Int) := by omega
        have b1 : (K : Int) < 86 := by have := HKL.out; omega
        have b2 : K < 86 := by have := HKL.out; omega
        clear hcz hczt
        go_region
        go_wp2_with fail
        have HSx := HS.upd 4 rfl ((HS.row 4 rfl).put K (.int .u8 (bd (x0 ^^^ u)))) (only_setCell (only_refl _ _) _)
        have HSx := HSx.drew
        clear HS k0 f0 c0
        generalize (w6.setCell ⟨gz, K, none⟩ (.int .u8 (bd (x0 ^^^ u)))).drew = w8 at *
        have HS : St w noF [⟨g1, 31, askC X⟩, ⟨g5, 46, cy⟩, ⟨gb, 5, cb⟩, ⟨g9, 31, askC X⟩, ⟨gz, 5, (cz.setIfInBounds K (.int .u8 (bd (x0 ^^^ u))))⟩] w8 := HSx
        clear HSx
        have t1 := take_put HCZT.out (K := K) (b := x0 ^^^ u) (by rw [HBL.out]; exact b2)
        have k0 : w8.cell? ⟨gz, K + 1, none⟩ = some (.int .u8 (bd x1)) := by
          have := row_at (q := B.set K (x0 ^^^ u)) (HS.row 4 rfl) (by rw [List.length_set]; exact t1) (m := K + 1) (by rw [List.length_set, HBL.out]; have := HKL.out; omega)
          rw [show (B.set K (x0 ^^^ u)).getD (K + 1) 0 = x1 by rw [← HX1.out]; simp [List.getD_eq_getElem?_getD]] at this
          exact this
        have f0 := (HS.row 4 rfl).free (K + 1)
        have c0 : w8.cell? ⟨g5, 1, none⟩ = some (.int .u8 (bd v)) := (HS.row 1 rfl).get HV.out
        have b3 : (0 : Int) ≤ (K : Int) + 1 := by omega
        have b4 : (K : Int) + 1 < 86 := by have := HKL.out; omega
        have b5 : K + 1 < 86 := by have := HKL.out; omega
        go_region
        go_wp2_with fail
        have HSx := HS.upd 4 rfl ((HS.row 4 rfl).put (K + 1) (.int .u8 (bd (x1 ^^^ v)))) (only_setCell (only_refl _ _) _)
        have HSx := HSx.drew
        clear HS k0 f0 c0
        generalize (w8.setCell ⟨gz, K + 1, none⟩ (.int .u8 (bd (x1 ^^^ v)))).drew = w9 at *
        have HS : St w noF [⟨g1, 31, askC X⟩, ⟨g5, 46, cy⟩, ⟨gb, 5, cb⟩, ⟨g9, 31, askC X⟩, ⟨gz, 5, ((cz.setIfInBounds K (.int .u8 (bd (x0 ^^^ u)))).setIfInBounds (K + 1) (.int .u8 (bd (x1 ^^^ v))))⟩] w9 := HSx
        clear HSx
        have t2 := take_put (q := B.set K (x0 ^^^ u)) (by rw [List.length_set]; exact t1) (K := K + 1) (b := x1 ^^^ v) (by rw [List.length_set, HBL.out]; exact b5)
        rw [HCS.out, List.length_set] at t2
        obtain ⟨cz2, hcz2⟩ : ∃ c, ((cz.setIfInBounds K (.int .u8 (bd (x0 ^^^ u)))).setIfInBounds (K + 1) (.int .u8 (bd (x1 ^^^ v)))) = c := ⟨_, rfl⟩
        rw [hcz2] at t2 HS
        have HSZ : Hid (Slice w9 (.slice (some ⟨gz, 0, none⟩) 86 cz9) C) := Lib.hid ((bat_row (HS.row 4 rfl) (by rw [HCL.out, ← HBL.out]; exact t2)).slice HCL.out HCZ.out)
        clear t1 t2 hcz2 b0 b1 b2 b3 b4 b5 HCZT HKL HX0 HX1 HCS
        go_wp2_with fail
        refine (HDC.out _ _ _ HSZ.out).mono ?_
        rintro x w20 ⟨rfl, hb⟩
        have HSx := HS.same hb
        clear HS hb HDC HSZ
        have HS := HSx
        clear HSx
        go_upto_region 14 with (first | ((with_reducible refine wpList_plain ?_ ?_); exact rfl; intro KK hKK; refine wp_st_alloc HS 31 (askC ask0) rfl (.agg (askC ask0)) (by exact zero_ask) (rfl) (fun g13 W21 HSx => hKK _ _ ?_); clear hKK KK HS; have HS : St w noF [⟨g1, 31, askC X⟩, ⟨g5, 46, cy⟩, ⟨gb, 5, cb⟩, ⟨g9, 31, askC X⟩, ⟨gz, 5, cz2⟩, ⟨g13, 31, askC ask0⟩] W21 := HSx; clear HSx) | ((with_reducible refine wpList_plain ?_ ?_); exact rfl; intro KK hKK; refine wp_st_store HS 5 0 31 (.tmp 13) (.tmp 85) rfl rfl rfl (.agg (askC Y)) rfl (by rw [show (Value.agg (askC Y)).cells.size = 72 from size_askC HYK.out]; exact size_ask) (by rw [Nat.zero_add, show (Value.agg (askC Y)).cells.size = 72 from size_askC HYK.out, size_askC wkOk0]; decide) (by exact one_ask _) (askC Y) (spl_agg _ _ _ rfl (by rw [size_askC wkOk0, size_askC HYK.out])) (fun W22 HSx => hKK _ _ ?_); clear hKK KK HS; have HS : St w noF [⟨g1, 31, askC X⟩, ⟨g5, 46, cy⟩, ⟨gb, 5, cb⟩, ⟨g9, 31, askC X⟩, ⟨gz, 5, cz2⟩, ⟨g13, 31, askC Y⟩] W22 := HSx; clear HSx))
        have CL := HDL.out (some ⟨gb, 0, none⟩) cb9 _ (((bat_row (HS.row 2 rfl) HCBT.out).take 85).slice (by rw [List.length_take, HBL.out]; rfl) (by have := HCB.out; omega))
        have k1 : (85 : Int) ≤ (cb9 : Int) := by have := HCB.out; omega
        have k2 : 85 ≤ cb9 := by have := HCB.out; omega
        go_wp2_with fail
        refine CL.mono ?_
        rintro x w21 ⟨rfl, hb⟩
        have HSx := HS.same hb
        clear HS hb CL k1 k2 HDL
        have HS := HSx
        clear HSx
        go_upto_region 15 with (first | ((with_reducible refine wpList_plain ?_ ?_); exact rfl; intro KK hKK; refine wp_st_alloc HS 31 (askC ask0) rfl (.agg (askC ask0)) (by exact zero_ask) (rfl) (fun g15 W23 HSx => hKK _ _ ?_); clear hKK KK HS; have HS : St w noF [⟨g1, 31, askC X⟩, ⟨g5, 46, cy⟩, ⟨gb, 5, cb⟩, ⟨g9, 31, askC X⟩, ⟨gz, 5, cz2⟩, ⟨g13, 31, askC Y⟩, ⟨g15, 31, askC ask0⟩] W23 := HSx; clear HSx) | ((with_reducible refine wpList_plain ?_ ?_); exact rfl; intro KK hKK; refine wp_st_store HS 6 0 31 (.tmp 15) (.tmp 94) rfl rfl rfl (.agg (askC ask0)) rfl (by rw [show (Value.agg (askC ask0)).cells.size = 72 from size_askC wkOk0]; exact size_ask) (Nat.le_refl _) (by exact one_ask _) (askC ask0) (spl_agg _ _ _ rfl rfl) (fun W24 HSx => hKK _ _ ?_); clear hKK KK HS; have HS : St w noF [⟨g1, 31, askC X⟩, ⟨g5, 46, cy⟩, ⟨gb, 5, cb⟩, ⟨g9, 31, askC X⟩, ⟨gz, 5, cz2⟩, ⟨g13, 31, askC Y⟩, ⟨g15, 31, askC ask0⟩] W24 := HSx; clear HSx))
        have hS2 : Slice (W24.alloc (.cells #[] 5)) (.slice (some ⟨gb, 0, none⟩) 86 cb9) B := ((bat_row (HS.row 2 rfl) HCBT.out).call ((Below.refl W24.heap.size W24).alloc (Nat.le_refl _) _)).slice HBL.out HCB.out
        go_wp2_with (first | (at_builtin; refine wpList_append_slice rfl (.tmp 97) (.tmp 98) rfl W24.heap.size _ 0 [] rfl (own_empty W24) (some ⟨gb, 0, none⟩) 86 cb9 B rfl hS2 (fun h => by cases h) (by decide) (by simp) ?_; intro kv w10 own1 hb4; simp only [Nat.zero_add, List.nil_append] at own1; clear hS2; have hb910 := ((Below.refl W24.heap.size W24).alloc (Nat.le_refl _) (.cells #[] 5)).trans hb4; have hS3 : Slice (w10.alloc (.cells #[.int .u8 0] 5)) (.slice (some ⟨w10.heap.size, 0, none⟩) 1 1) [0#8] := row_slice (Row.fresh w10 5 (bs [0#8])) (c := 1) (Nat.le_refl _); have own2 := own1.alloc (.cells #[.int .u8 0] 5); have hb911 := hb910.alloc hb910.size (.cells #[.int .u8 0] 5); clear hb4 hb910 own1) | (at_builtin; refine wpList_append_slice rfl (.tmp 99) (.tmp 100) rfl W24.heap.size _ 86 _ rfl own2 (some ⟨w10.heap.size, 0, none⟩) 1 1 _ rfl hS3 (fun h => by cases h) (by decide) hb911.size ?_; intro kv2 w11 own3 hb4; have hb9 := hb911.trans hb4; clear own2 hS3 hb911 hb4))
        rw [← bytesV_apps] at own3
        have hs5 := own_slice (q := B ++ [0#8]) (by rw [List.length_append, HBL.out]; exact own3)
        obtain ⟨A5, c5, rfl, _⟩ := own_slice_form own3
        have hb := hb9
        have HSx := HS.same hb
        clear HS hb hb9 own3
        have HS := HSx
        clear HSx
        refine (HDM.out A5 c5 w11 hs5).mono ?_
        rintro x w22 ⟨rfl, hb⟩
        have HSx := HS.same hb
        clear HS hb hs5 HDM
        have HS := HSx
        clear HSx
        go_upto_region 16 with (first | ((with_reducible refine wpList_plain ?_ ?_); exact rfl; intro KK hKK; refine wp_st_alloc HS 31 (askC ask0) rfl (.agg (askC ask0)) (by exact zero_ask) (rfl) (fun g17 W25 HSx => hKK _ _ ?_); clear hKK KK HS; have HS : St w noF [⟨g1, 31, askC X⟩, ⟨g5, 46, cy⟩, ⟨gb, 5, cb⟩, ⟨g9, 31, askC X⟩, ⟨gz, 5, cz2⟩, ⟨g13, 31, askC Y⟩, ⟨g15, 31, askC ask0⟩, ⟨g17, 31, askC ask0⟩] W25 := HSx; clear HSx) | ((with_reducible refine wpList_plain ?_ ?_); exact rfl; intro KK hKK; refine wp_st_store HS 7 0 31 (.tmp 17) (.tmp 103) rfl rfl rfl (.agg (askC ask0)) rfl (by rw [show (Value.agg (askC ask0)).cells.size = 72 from size_askC wkOk0]; exact size_ask) (Nat.le_refl _) (by exact one_ask _) (askC ask0) (spl_agg _ _ _ rfl rfl) (fun W26 HSx => hKK _ _ ?_); clear hKK KK HS; have HS : St w noF [⟨g1, 31, askC X⟩, ⟨g5, 46, cy⟩, ⟨gb, 5, cb⟩, ⟨g9, 31, askC X⟩, ⟨gz, 5, cz2⟩, ⟨g13, 31, askC Y⟩, ⟨g15, 31, askC ask0⟩, ⟨g17, 31, askC ask0⟩] W26 := HSx; clear HSx))
        have hz2 := HZ2.out
        have hE := HE.out
        clear HE
        cases Z with
        | true =>
          rw [if_pos rfl] at hE
          subst hE
          go_wp2_with (first | ((with_reducible refine wpList_plain ?_ ?_); exact rfl; intro KK hKK; refine wp_st_load HS 1 0 46 (.tmp 5) rfl rfl rfl (cy) (slab_whole _) _ Tryd.underlying46 rfl (by rw [HCYS.out]; exact size_b2) (hKK _ _ ?_); clear hKK KK))
          refine (askwakes_any _).mono ?_
          rintro x9 w99 ⟨rfl, hb⟩
          go_wp2_with fail
          go_ret
          exact ⟨rfl, (HS.same hb).below⟩
        | false =>
          rw [if_neg Bool.false_ne_true] at hE
          subst hE
          go_wp2_with (first | ((with_reducible refine wpList_plain ?_ ?_); exact rfl; intro KK hKK; refine wp_st_load HS 1 0 46 (.tmp 5) rfl rfl rfl (cy) (slab_whole _) _ Tryd.underlying46 rfl (by rw [HCYS.out]; exact size_b2) (hKK _ _ ?_); clear hKK KK))
          refine (askwakes_any _).mono ?_
          rintro x9 w99 ⟨rfl, hb⟩
          go_wp2_with fail
          go_ret
          exact ⟨rfl, (HS.same hb).below⟩
theorem askturns_all (X : Asq) (at_ : Int) (q : List (BitVec 8)) (w : World) (h : X.Ok) (hq : q.length = 2) : Calls Tryd.prog 4 #[.agg (askC X), .int .i64 at_, .agg (bs q)] w fun x w' => x = .returned (.bool true) ∧ Below w.heap.size w w' := by
  obtain ⟨u, q, rfl⟩ := List.exists_cons_of_length_pos (by rw [hq]; decide : 0 < q.length)
  obtain ⟨v, q, rfl⟩ := List.exists_cons_of_length_pos (by rw [List.length_cons] at hq; omega : 0 < q.length)
  obtain rfl : q = [] := by cases q with | nil => rfl | cons => simp at hq
  exact askturns_walk X at_ u v w h
end Go.Proofs.YtobklbfcnbmnmaaDoor
