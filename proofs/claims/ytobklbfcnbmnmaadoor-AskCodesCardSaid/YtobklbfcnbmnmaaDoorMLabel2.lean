/- Merged: TokRefD. -/
import Derived.Test.YtobklbfcnbmnmaaDoorMLabel0
import Derived.Test.YtobklbfcnbmnmaaDoorMGen1
/- The document's token of bytes. -/
set_option maxRecDepth 4000
namespace Go.Proofs.YtobklbfcnbmnmaaDoor
open Go Go.RowKit
attribute [local go_sem] strB_size
theorem nm0_eq : Value.agg #[.string ⟨#[]⟩, .bool false] = .agg (nmC [] false) := by rw [nm_zero]
theorem zero_nm : (Tryd.prog.info? 64).bind (·.zero) = some (.agg (nmC [] false)) := by rw [← nm0_eq]; kernel_rfl
theorem spl_tag (c : Clm) (p q : List (BitVec 8)) (h : p.length = q.length) : (spl (tokCells c p).toList 5 (bytesV q)).toArray = tokCells c q := by
  unfold spl tokCells
  rw [Array.toList_append]
  have h5 : (clmCells c).toList.length = 5 := rfl
  rw [List.take_left' h5, List.drop_of_length_le (by rw [List.length_append, h5, bs_toList, len_bytesV, len_bytesV, h]; exact Nat.le_refl _), List.append_nil]
  apply Array.ext'
  simp [bs_toList]
/- what the document's Decode tells -/
theorem ref_dec {q : List (BitVec 8)} (hl : q.length = 46) :
    (mayC (clmQ q) = false ∧ tokOk q = false) ∨ (mayC (clmQ q) = true ∧ tokOk q = decide (clmB (clmQ q) ++ q.drop 14 = q)) := by
  cases hm : mayC (clmQ q) with
  | false => exact .inl ⟨rfl, by unfold tokOk; rw [hm, Bool.and_false]⟩
  | true =>
    refine .inr ⟨rfl, ?_⟩
    cases hk : tokOk q with
    | true => rw [decide_eq_true (tok_forth hk)]
    | false =>
      symm
      refine decide_eq_false fun h => ?_
      have := (tok_back hm (show (q.drop 14).length = 32 by rw [List.length_drop, hl])).1
      rw [h, hk] at this; cases this
set_option maxHeartbeats 800000 in
theorem rtokdec_len (A : Option Addr) (n cc : Nat) (w : World) (hn : ¬ n = 46) :
    Calls Tryd.prog 25 #[.slice A n cc] w fun e w' => e = .returned (.tuple #[.agg (tokCells clm0 (zer 32)), .int .i64 11]) ∧ Below w.heap.size w w' := by
  have hne : ((n : Int) == 46) = false := beq_eq_false_iff_ne.2 (by omega)
  have HS := St.nil w noF
  go_enter Tryd.func25, Tryd.ntmps25
  go_upto_region 1 with (first | ((with_reducible refine wpList_plain ?_ ?_); exact rfl; intro KK hKK; refine wp_st_alloc HS 28 (tokCells clm0 (zer 32)) rfl (.agg (tokCells clm0 (zer 32))) (by exact zero_tok) (rfl) (fun g2 W1 HSx => hKK _ _ ?_); clear hKK KK HS; have HS : St w noF [⟨g2, 28, tokCells clm0 (zer 32)⟩] W1 := HSx; clear HSx))
  have HS := HS
  go_wp2_with (first | ((with_reducible refine wpList_plain ?_ ?_); exact rfl; intro KK hKK; refine wp_st_store HS 0 0 28 (.tmp 2) (.tmp 11) rfl rfl rfl (.agg #[.int .i64 0, .string ⟨#[]⟩, .int .i64 0, .int .u32 0, .int .u32 0, .int .u8 0, .int .u8 0, .int .u8 0, .int .u8 0, .int .u8 0, .int .u8 0, .int .u8 0, .int .u8 0, .int .u8 0, .int .u8 0, .int .u8 0, .int .u8 0, .int .u8 0, .int .u8 0, .int .u8 0, .int .u8 0, .int .u8 0, .int .u8 0, .int .u8 0, .int .u8 0, .int .u8 0, .int .u8 0, .int .u8 0, .int .u8 0, .int .u8 0, .int .u8 0, .int .u8 0, .int .u8 0, .int .u8 0, .int .u8 0, .int .u8 0, .int .u8 0]) rfl (by exact size_tok) (by rw [tok_size _ _ (length_zer 32)]; exact Nat.le_refl 37) (by exact zeros_one) (tokCells clm0 (zer 32)) (spl_agg _ _ _ zeros_tok (by rw [tok_size _ _ (length_zer 32)]; rfl)) (fun W31 HSx => hKK _ _ ?_); clear hKK KK HS; have HS : St w noF [⟨g2, 28, tokCells clm0 (zer 32)⟩] W31 := HSx; clear HSx))
  exact bodyPost_ret (v := .tuple #[.agg (tokCells clm0 (zer 32)), .int .i64 11]) (results_cell_tmp Tryd.results25 _ _ g2 28 (tokCells clm0 (zer 32)) (0, 0) _ rfl (HS.row 0 rfl) Tryd.underlying28 rfl (by first | exact size_tok | (rw [tok_size _ _ HGL.out]; exact size_tok))) rfl ⟨rfl, HS.below⟩
set_option maxRecDepth 20000 in
set_option maxHeartbeats 1600000 in
theorem rtokdec_no (g o cc : Nat) (q : List (BitVec 8)) (w : World) (hB : BAt w g o q) (hl : q.length = 46) (hc : 46 ≤ cc) (hm : mayC (clmQ q) = false) :
    Calls Tryd.prog 25 #[.slice (some ⟨g, o, none⟩) 46 cc] w fun e w' => e = .returned (.tuple #[.agg (tokCells clm0 (zer 32)), .int .i64 11]) ∧ Below w.heap.size w w' := by
  have HBA := Lib.hid hB
  have HQL := Lib.hid hl
  have HCC := Lib.hid hc
  have k6 : ¬ cc = 6 := by omega
  have k10 : ¬ cc = 10 := by omega
  have k14 : ¬ cc = 14 := by omega
  have l6 : 6 ≤ cc := by omega
  have l10 : 10 ≤ cc := by omega
  have l14 : 14 ≤ cc := by omega
  have l46 : 46 ≤ cc := by omega
  have i10 : (10 : Int) ≤ (cc : Int) := by omega
  have i14 : (14 : Int) ≤ (cc : Int) := by omega
  have i46 : (46 : Int) ≤ (cc : Int) := by omega
  obtain ⟨b4, hb4⟩ : ∃ b4, (q.drop 1).take 4 = b4 := ⟨_, rfl⟩
  have HB4 : Hid (b4.length = 4) := Lib.hid (by rw [← hb4, List.length_take, List.length_drop, hl]; rfl)
  obtain ⟨x0, hx0⟩ : ∃ x, q.getD 0 0#8 = x := ⟨_, rfl⟩
  obtain ⟨x1, hx1⟩ : ∃ x, q.getD 1 0#8 = x := ⟨_, rfl⟩
  obtain ⟨x2, hx2⟩ : ∃ x, q.getD 2 0#8 = x := ⟨_, rfl⟩
  obtain ⟨x3, hx3⟩ : ∃ x, q.getD 3 0#8 = x := ⟨_, rfl⟩
  obtain ⟨x4, hx4⟩ : ∃ x, q.getD 4 0#8 = x := ⟨_, rfl⟩
  obtain ⟨x5, hx5⟩ : ∃ x, q.getD 5 0#8 = x := ⟨_, rfl⟩
  have HB4E : Hid ([x1, x2, x3, x4] = b4) := Lib.hid (by rw [← hb4, piece4 q 1 (by rw [hl]; decide), ← hx1, ← hx2, ← hx3, ← hx4])
  obtain ⟨u, hu⟩ : ∃ u, lv 0 (q.drop 6) = u := ⟨_, rfl⟩
  obtain ⟨v, hv⟩ : ∃ v, lv 0 (q.drop 10) = v := ⟨_, rfl⟩
  have HX0 := Lib.hid hx0
  have HX1 := Lib.hid hx1
  have HX2 := Lib.hid hx2
  have HX3 := Lib.hid hx3
  have HX4 := Lib.hid hx4
  have HX5 := Lib.hid hx5
  have HU : Hid (num ((q.drop 6).take 4) = u) := Lib.hid (by rw [← hu, lv_num _ 0 (by rw [List.length_drop, hl]; decide), List.drop_zero])
  have HV : Hid (num ((q.drop 10).take 4) = v) := Lib.hid (by rw [← hv, lv_num _ 0 (by rw [List.length_drop, hl]; decide), List.drop_zero])
  have HCUT := Lib.hid (fun W => refcutn_any b4 W HB4.out)
  obtain ⟨nm, hnm⟩ : ∃ nm, (cutN b4).1 = nm := ⟨_, rfl⟩
  obtain ⟨ok, hok⟩ : ∃ ok, (cutN b4).2 = ok := ⟨_, rfl⟩
  rw [hnm, hok] at HCUT
  have hnl : nm.length ≤ maxLen := by rw [← hnm]; have := cut_len HB4.out; unfold maxLen; omega
  obtain ⟨X, hX⟩ : ∃ X, clmQ q = X := ⟨_, rfl⟩
  obtain ⟨G, hG⟩ : ∃ G, q.drop 14 = G := ⟨_, rfl⟩
  have HCQ : Hid (X = ⟨bd x0, nm, bd x5, u, v⟩) := Lib.hid (by rw [← hX, ← hx0, ← hx5, ← hu, ← hv, ← hnm, ← hb4]; rfl)
  have HGL : Hid (G.length = 32) := Lib.hid (by rw [← hG, List.length_drop, hl])
  have HGE := Lib.hid hG
  have hxn : X.n.length ≤ maxLen := by rw [HCQ.out]; exact hnl
  rw [hX] at hm
  have HEN := Lib.hid (fun W => rtokenc_bad X G W hxn hm)
  clear hB hl hc hb4 hx0 hx1 hx2 hx3 hx4 hx5 hu hv hnm hok hX hG hm hxn hnl
  have HS := St.nil w noF
  go_enter Tryd.func25, Tryd.ntmps25
  go_upto_region 1 with (first | ((with_reducible refine wpList_plain ?_ ?_); exact rfl; intro KK hKK; refine wp_st_alloc HS 28 (tokCells clm0 (zer 32)) rfl (.agg (tokCells clm0 (zer 32))) (by exact zero_tok) (rfl) (fun g2 W1 HSx => hKK _ _ ?_); clear hKK KK HS; have HS : St w noF [⟨g2, 28, tokCells clm0 (zer 32)⟩] W1 := HSx; clear HSx))
  have HS := HS
  obtain ⟨B0, hB0⟩ : ∃ B0, W1.heap.size = B0 := ⟨_, rfl⟩
  have HB0 : Hid (w.heap.size ≤ B0) := Lib.hid (by rw [← hB0]; exact HS.below.size)
  have HLT : Hid (∀ b ∈ ([⟨g2, 28, tokCells clm0 (zer 32)⟩] : List Blk), b.g < B0) := Lib.hid (by rw [← hB0]; exact fun b hb => HS.lt hb)
  have HBB : Hid (B0 ≤ W1.heap.size) := Lib.hid (Nat.le_of_eq hB0.symm)
  clear hB0
  go_upto_region 3 with fail
  have hF0 : Wl [fun W => St w noF [⟨g2, 28, tokCells clm0 (zer 32)⟩] W ∧ B0 ≤ W.heap.size, fun W => St w noF [⟨g2, 28, tokCells clm0 (zer 32)⟩] W ∧ B0 ≤ W.heap.size] 0 W1.drew := ⟨HS.drew, HBB.out⟩
  clear HS HBB
  refine wp_region_phas [is (.slice (some ⟨g, o, none⟩) 46 cc), is (.pointer (some ⟨g, o + 1, none⟩)), is (.int .u8 (bd x1)), is (.slice (some ⟨g, o, none⟩) 46 cc), is (.pointer (some ⟨g, o + 2, none⟩)), is (.int .u8 (bd x2)), is (.slice (some ⟨g, o, none⟩) 46 cc), is (.pointer (some ⟨g, o + 3, none⟩)), is (.int .u8 (bd x3)), is (.slice (some ⟨g, o, none⟩) 46 cc), is (.pointer (some ⟨g, o + 4, none⟩)), is (.int .u8 (bd x4)), is (.agg (bs b4)), is (.agg (nmC nm ok)), (fun v W => ∃ k, v = Value.pointer (some ⟨k, 0, none⟩) ∧ Row W k 64 (nmC [] false) ∧ B0 ≤ k), (fun v W => ∃ k, v = Value.pointer (some ⟨k, 0, none⟩) ∧ Row W k 64 (nmC nm ok) ∧ B0 ≤ k)] [true, true, true, true, true, true, true, true, true, true, true, true, true, true, false, false] [(fun W => St w noF [⟨g2, 28, tokCells clm0 (zer 32)⟩] W ∧ B0 ≤ W.heap.size), (fun W => St w noF [⟨g2, 28, tokCells clm0 (zer 32)⟩] W ∧ B0 ≤ W.heap.size)] [false, false, false, false, false, false, false, false, false, false, false, false, false, false, false, true] [some 0, some 0, some 0, some 0, some 0, some 0, some 0, some 0, some 0, some 0, some 0, some 0, some 0, some 0, some 0, some 0] [none, none, none, none, none, none, none, none, none, none, none, none, none, none, none, some 14] [some 12, some 13, some 14, some 15, some 16, some 17, some 18, some 19, some 20, some 21, some 22, some 23, some 24, some 25, some 4, none] 16 1 (fun _ => true) rfl rfl (by kernel_rfl) (by kernel_rfl) (by kernel_rfl) (by kernel_rfl) (by kernel_rfl) ?_ ?_ ?_ ?_ ?_ ?_
  · repeat first | exact wok_nil | refine wok_cons (by first | exact fun _ _ h k => ⟨h.1.same k, Nat.le_trans h.2 k.size⟩) ?_
  · repeat first | exact vok_nil | refine vok_rig (by first | exact fun _ _ _ h => h) ?_ | refine vok_soft (by first | exact fun _ _ _ h _ => h | exact fun _ _ _ h k => ⟨h.choose, h.choose_spec.1, h.choose_spec.2.1.call k, h.choose_spec.2.2⟩) ?_
  · exact hF0
  · repeat first | exact all_end (by decide) | refine all_cons (by first | exact rfl | exact ⟨rfl, fun _ _ h => Or.inl h⟩ | exact ⟨rfl, fun _ _ h => Or.inr ⟨h, rfl⟩⟩) ?_
  · refine alla_old rfl (step_mild 0 rfl rfl rfl (fun a x W hout hin hP => ?_)) ?_
    · have e0 : a.tmps[0]? = some (.slice (some ⟨g, o, none⟩) 46 cc) := (hout 0 (by kernel_rfl)).trans rfl
      exact does_move rfl e0 ⟨Same.refl _, rfl⟩
    refine alla_old rfl (step_mild 0 rfl rfl rfl (fun a x W hout hin hP => ?_)) ?_
    · have e12 := hin.is 0 12 (by kernel_rfl) (by decide) (by kernel_rfl) (by kernel_rfl) _ rfl
      clear hin hout
      intro K Q hK
      go_simp
      exact hK _ _ ⟨Same.refl _, rfl⟩
    refine alla_old rfl (step_mild 0 rfl rfl rfl (fun a x W hout hin hP => ?_)) ?_
    · have e13 := hin.is 1 13 (by kernel_rfl) (by decide) (by kernel_rfl) (by kernel_rfl) _ rfl
      have hc : W.cell? ⟨g, o + 1, none⟩ = some (.int .u8 (bd x1)) := HX1.out ▸ (HBA.out.call (hP.1).below).get 1 (by rw [HQL.out]; decide)
      clear hP
      clear hin hout
      intro K Q hK
      go_simp
      exact hK _ _ ⟨Same.refl _, rfl⟩
    refine alla_old rfl (step_mild 0 rfl rfl rfl (fun a x W hout hin hP => ?_)) ?_
    · have e0 : a.tmps[0]? = some (.slice (some ⟨g, o, none⟩) 46 cc) := (hout 0 (by kernel_rfl)).trans rfl
      exact does_move rfl e0 ⟨Same.refl _, rfl⟩
    refine alla_old rfl (step_mild 0 rfl rfl rfl (fun a x W hout hin hP => ?_)) ?_
    · have e15 := hin.is 3 15 (by kernel_rfl) (by decide) (by kernel_rfl) (by kernel_rfl) _ rfl
      clear hin hout
      intro K Q hK
      go_simp
      exact hK _ _ ⟨Same.refl _, rfl⟩
    refine alla_old rfl (step_mild 0 rfl rfl rfl (fun a x W hout hin hP => ?_)) ?_
    · have e16 := hin.is 4 16 (by kernel_rfl) (by decide) (by kernel_rfl) (by kernel_rfl) _ rfl
      have hc : W.cell? ⟨g, o + 2, none⟩ = some (.int .u8 (bd x2)) := HX2.out ▸ (HBA.out.call (hP.1).below).get 2 (by rw [HQL.out]; decide)
      clear hP
      clear hin hout
      intro K Q hK
      go_simp
      exact hK _ _ ⟨Same.refl _, rfl⟩
    refine alla_old rfl (step_mild 0 rfl rfl rfl (fun a x W hout hin hP => ?_)) ?_
    · have e0 : a.tmps[0]? = some (.slice (some ⟨g, o, none⟩) 46 cc) := (hout 0 (by kernel_rfl)).trans rfl
      exact does_move rfl e0 ⟨Same.refl _, rfl⟩
    refine alla_old rfl (step_mild 0 rfl rfl rfl (fun a x W hout hin hP => ?_)) ?_
    · have e18 := hin.is 6 18 (by kernel_rfl) (by decide) (by kernel_rfl) (by kernel_rfl) _ rfl
      clear hin hout
      intro K Q hK
      go_simp
      exact hK _ _ ⟨Same.refl _, rfl⟩
    refine alla_old rfl (step_mild 0 rfl rfl rfl (fun a x W hout hin hP => ?_)) ?_
    · have e19 := hin.is 7 19 (by kernel_rfl) (by decide) (by kernel_rfl) (by kernel_rfl) _ rfl
      have hc : W.cell? ⟨g, o + 3, none⟩ = some (.int .u8 (bd x3)) := HX3.out ▸ (HBA.out.call (hP.1).below).get 3 (by rw [HQL.out]; decide)
      clear hP
      clear hin hout
      intro K Q hK
      go_simp
      exact hK _ _ ⟨Same.refl _, rfl⟩
    refine alla_old rfl (step_mild 0 rfl rfl rfl (fun a x W hout hin hP => ?_)) ?_
    · have e0 : a.tmps[0]? = some (.slice (some ⟨g, o, none⟩) 46 cc) := (hout 0 (by kernel_rfl)).trans rfl
      exact does_move rfl e0 ⟨Same.refl _, rfl⟩
    refine alla_old rfl (step_mild 0 rfl rfl rfl (fun a x W hout hin hP => ?_)) ?_
    · have e21 := hin.is 9 21 (by kernel_rfl) (by decide) (by kernel_rfl) (by kernel_rfl) _ rfl
      clear hin hout
      intro K Q hK
      go_simp
      exact hK _ _ ⟨Same.refl _, rfl⟩
    refine alla_old rfl (step_mild 0 rfl rfl rfl (fun a x W hout hin hP => ?_)) ?_
    · have e22 := hin.is 10 22 (by kernel_rfl) (by decide) (by kernel_rfl) (by kernel_rfl) _ rfl
      have hc : W.cell? ⟨g, o + 4, none⟩ = some (.int .u8 (bd x4)) := HX4.out ▸ (HBA.out.call (hP.1).below).get 4 (by rw [HQL.out]; decide)
      clear hP
      clear hin hout
      intro K Q hK
      go_simp
      exact hK _ _ ⟨Same.refl _, rfl⟩
    refine alla_old rfl (step_mild 0 rfl rfl rfl (fun a x W hout hin hP => ?_)) ?_
    · have e14 := hin.is 2 14 (by kernel_rfl) (by decide) (by kernel_rfl) (by kernel_rfl) _ rfl
      have e17 := hin.is 5 17 (by kernel_rfl) (by decide) (by kernel_rfl) (by kernel_rfl) _ rfl
      have e20 := hin.is 8 20 (by kernel_rfl) (by decide) (by kernel_rfl) (by kernel_rfl) _ rfl
      have e23 := hin.is 11 23 (by kernel_rfl) (by decide) (by kernel_rfl) (by kernel_rfl) _ rfl
      rw [← HB4E.out]
      clear hP
      clear hin hout
      intro K Q hK
      go_simp
      exact hK _ _ ⟨Same.refl _, rfl⟩
    refine alla_old rfl (step_mild 0 rfl rfl rfl (fun a x W hout hin hP => ?_)) ?_
    · have e24 := hin.is 12 24 (by kernel_rfl) (by decide) (by kernel_rfl) (by kernel_rfl) _ rfl
      have C := HCUT.out W
      clear hP
      clear hin hout
      intro K Q hK
      go_simp
      refine C.mono ?_
      rintro e W' ⟨rfl, hb⟩
      exact hK _ _ ⟨hb, rfl⟩
    refine alla_old rfl (step_mild 0 rfl rfl rfl (fun a x W hout hin hP => ?_)) ?_
    · have hbse := hP.2
      clear hP hin hout
      intro K Q hK
      refine wp_new_row 64 (nmC [] false) rfl zero_nm ?_
      exact hK _ _ ⟨Same.alloc _ _, _, rfl, Row.fresh _ _ _, hbse⟩
    refine alla_wild 0 rfl rfl rfl (fun a x W hout hin hP => ?_) ?_
    · obtain ⟨hw14, hx14⟩ := hin 14 (by kernel_rfl) (by decide)
      have hw14 := hw14 (.inr ⟨rfl, by kernel_rfl⟩)
      have hx14 := hx14 4 (by kernel_rfl)
      have e25 := hin.is 13 25 (by kernel_rfl) (by decide) (by kernel_rfl) (by kernel_rfl) _ rfl
      obtain ⟨g6, hg6, r6, hb6⟩ := hw14
      rw [hg6] at hx14
      clear hin hout
      intro K Q hK
      refine wp_store_row 64 (.tmp 4) (.tmp 25) rfl g6 (nmC nm ok) (eval_of_get hx14) (eval_of_get e25) 64 (nmC [] false) r6 (by exact size_nm) rfl (one_nm _ _) ?_
      have hgr := grown_setRow W g6 (nmC nm ok)
      exact hK (x 14) _ ⟨⟨hP.1.far hgr (Nat.le_trans HB0.out hb6) (fun b hb => by have := HLT.out b hb; omega), Nat.le_trans hP.2 hgr.size⟩, ⟨g6, hg6, r6.setRow _, hb6⟩, al_one rfl rfl⟩
    exact all_end (by decide)
  · intro x W hP hV hal
    obtain ⟨g4, h8, r4, hb4⟩ := hV 15 (by decide) (.inr (by kernel_rfl))
    have h7 : x 14 = .pointer (some ⟨g4, 0, none⟩) := (hal 15 (by decide) 14 rfl).symm.trans h8
    have HS : St w noF [⟨g2, 28, tokCells clm0 (zer 32)⟩, ⟨g4, 64, nmC nm ok⟩] W := hP.1.join r4 (Nat.le_trans HB0.out hb4) (fun b hb => by have := HLT.out b hb; omega)
    clear hV hP hal h8 r4 hb4
    simp only [putL, Act.put, List.setIfInBounds_toArray, List.set_cons_succ, List.set_cons_zero, h7]
    simp only [Nat.zero_add, Nat.reduceAdd]
    refine wpAnyH_done (by kernel_rfl) ?_ _
    clear h7
    go_upto_region 5 with (first | ((with_reducible refine wpList_plain ?_ ?_); exact rfl; intro KK hKK; refine wp_st_alloc HS 28 (tokCells clm0 (zer 32)) rfl (.agg (tokCells clm0 (zer 32))) (by exact zero_tok) (rfl) (fun g5 W21 HSx => hKK _ _ ?_); clear hKK KK HS; have HS : St w noF [⟨g2, 28, tokCells clm0 (zer 32)⟩, ⟨g4, 64, nmC nm ok⟩, ⟨g5, 28, tokCells clm0 (zer 32)⟩] W21 := HSx; clear HSx))
    have hF0 : Wl [fun W => St w noF [⟨g2, 28, tokCells clm0 (zer 32)⟩, ⟨g4, 64, nmC nm ok⟩, ⟨g5, 28, tokCells clm0 (zer 32)⟩] W, fun W => St w noF [⟨g2, 28, tokCells clm0 (zer 32)⟩, ⟨g4, 64, nmC nm ok⟩, ⟨g5, 28, tokCells X (zer 32)⟩] W] 0 W21.drew := HS.drew
    clear HS
    refine wp_region_phs [is (.slice (some ⟨g, o, none⟩) 46 cc), is (.pointer (some ⟨g, o, none⟩)), is (.int .u8 (bd x0)), is (.int .i64 (bd x0)), is (.pointer (some ⟨g4, 0, none⟩)), is (.string (strB nm)), is (.slice (some ⟨g, o, none⟩) 46 cc), is (.pointer (some ⟨g, o + 5, none⟩)), is (.int .u8 (bd x5)), is (.int .i64 (bd x5)), is (.slice (some ⟨g, o, none⟩) 46 cc), is (.slice (some ⟨g, o + 6, none⟩) 4 (cc - 6)), is (.int .u32 (wd u)), is (.slice (some ⟨g, o, none⟩) 46 cc), is (.slice (some ⟨g, o + 10, none⟩) 4 (cc - 10)), is (.int .u32 (wd v)), is (.agg (clmCells X)), is (.pointer (some ⟨g5, 0, none⟩)), anyV] [true, true, true, true, true, true, true, true, true, true, true, true, true, true, true, true, true, true, true] [(fun W => St w noF [⟨g2, 28, tokCells clm0 (zer 32)⟩, ⟨g4, 64, nmC nm ok⟩, ⟨g5, 28, tokCells clm0 (zer 32)⟩] W), (fun W => St w noF [⟨g2, 28, tokCells clm0 (zer 32)⟩, ⟨g4, 64, nmC nm ok⟩, ⟨g5, 28, tokCells X (zer 32)⟩] W)] [false, false, false, false, false, false, false, false, false, false, false, false, false, false, false, false, false, false, true] [some 0, some 0, some 0, some 0, some 0, some 0, some 0, some 0, some 0, some 0, some 0, some 0, some 0, some 0, some 0, some 0, some 0, some 0, some 0] [some 26, some 27, some 28, some 29, some 30, some 31, some 32, some 33, some 34, some 35, some 36, some 37, some 38, some 39, some 40, some 41, some 42, some 43, none] 19 1 (fun _ => true) rfl rfl (by kernel_rfl) (by kernel_rfl) (by kernel_rfl) (by kernel_rfl) ?_ ?_ ?_ ?_ ?_ ?_
    · repeat first | exact wok_nil | refine wok_cons (by first | exact fun _ _ h k => h.same k) ?_
    · repeat first | exact vok_nil | refine vok_rig (by first | exact fun _ _ _ h => h) ?_ | refine vok_soft (by first | exact fun _ _ _ h _ => h) ?_
    · exact hF0
    · repeat first | exact all_end (by decide) | refine all_cons (by first | exact rfl | exact ⟨rfl, fun _ _ h => Or.inl h⟩ | exact ⟨rfl, fun _ _ h => Or.inr ⟨h, rfl⟩⟩) ?_
    · refine allp_mild 0 rfl rfl rfl (fun a x W hout hin hP => ?_) ?_
      · have e0 : a.tmps[0]? = some (.slice (some ⟨g, o, none⟩) 46 cc) := (hout 0 (by kernel_rfl)).trans rfl
        exact does_move rfl e0 ⟨Same.refl _, rfl⟩
      refine allp_mild 0 rfl rfl rfl (fun a x W hout hin hP => ?_) ?_
      · have e26 := hin.is 0 26 (by kernel_rfl) (by decide) (by kernel_rfl) (by kernel_rfl) _ rfl
        clear hin hout
        intro K Q hK
        go_simp
        exact hK _ _ ⟨Same.refl _, rfl⟩
      refine allp_mild 0 rfl rfl rfl (fun a x W hout hin hP => ?_) ?_
      · have e27 := hin.is 1 27 (by kernel_rfl) (by decide) (by kernel_rfl) (by kernel_rfl) _ rfl
        have hc : W.cell? ⟨g, o, none⟩ = some (.int .u8 (bd x0)) := HX0.out ▸ (HBA.out.call (hP).below).get 0 (by rw [HQL.out]; decide)
        clear hP
        clear hin hout
        intro K Q hK
        go_simp
        exact hK _ _ ⟨Same.refl _, rfl⟩
      refine allp_mild 0 rfl rfl rfl (fun a x W hout hin hP => ?_) ?_
      · have e28 := hin.is 2 28 (by kernel_rfl) (by decide) (by kernel_rfl) (by kernel_rfl) _ rfl
        have hw := i64_bd x0
        clear hin hout
        intro K Q hK
        go_simp
        exact hK _ _ ⟨Same.refl _, rfl⟩
      refine allp_mild 0 rfl rfl rfl (fun a x W hout hin hP => ?_) ?_
      · have e4 : a.tmps[4]? = some (.pointer (some ⟨g4, 0, none⟩)) := (hout 4 (by kernel_rfl)).trans rfl
        clear hin hout
        intro K Q hK
        go_simp
        exact hK _ _ ⟨Same.refl _, rfl⟩
      refine allp_mild 0 rfl rfl rfl (fun a x W hout hin hP => ?_) ?_
      · have e30 := hin.is 4 30 (by kernel_rfl) (by decide) (by kernel_rfl) (by kernel_rfl) _ rfl
        have hc : W.cell? ⟨g4, 0, none⟩ = some (.string (strB nm)) := (hP.row 1 rfl).get rfl
        clear hP
        clear hin hout
        intro K Q hK
        go_simp
        exact hK _ _ ⟨Same.refl _, rfl⟩
      refine allp_mild 0 rfl rfl rfl (fun a x W hout hin hP => ?_) ?_
      · have e0 : a.tmps[0]? = some (.slice (some ⟨g, o, none⟩) 46 cc) := (hout 0 (by kernel_rfl)).trans rfl
        exact does_move rfl e0 ⟨Same.refl _, rfl⟩
      refine allp_mild 0 rfl rfl rfl (fun a x W hout hin hP => ?_) ?_
      · have e32 := hin.is 6 32 (by kernel_rfl) (by decide) (by kernel_rfl) (by kernel_rfl) _ rfl
        clear hin hout
        intro K Q hK
        go_simp
        exact hK _ _ ⟨Same.refl _, rfl⟩
      refine allp_mild 0 rfl rfl rfl (fun a x W hout hin hP => ?_) ?_
      · have e33 := hin.is 7 33 (by kernel_rfl) (by decide) (by kernel_rfl) (by kernel_rfl) _ rfl
        have hc : W.cell? ⟨g, o + 5, none⟩ = some (.int .u8 (bd x5)) := HX5.out ▸ (HBA.out.call (hP).below).get 5 (by rw [HQL.out]; decide)
        clear hP
        clear hin hout
        intro K Q hK
        go_simp
        exact hK _ _ ⟨Same.refl _, rfl⟩
      refine allp_mild 0 rfl rfl rfl (fun a x W hout hin hP => ?_) ?_
      · have e34 := hin.is 8 34 (by kernel_rfl) (by decide) (by kernel_rfl) (by kernel_rfl) _ rfl
        have hw := i64_bd x5
        clear hin hout
        intro K Q hK
        go_simp
        exact hK _ _ ⟨Same.refl _, rfl⟩
      refine allp_mild 0 rfl rfl rfl (fun a x W hout hin hP => ?_) ?_
      · have e0 : a.tmps[0]? = some (.slice (some ⟨g, o, none⟩) 46 cc) := (hout 0 (by kernel_rfl)).trans rfl
        exact does_move rfl e0 ⟨Same.refl _, rfl⟩
      refine allp_mild 0 rfl rfl rfl (fun a x W hout hin hP => ?_) ?_
      · have e36 := hin.is 10 36 (by kernel_rfl) (by decide) (by kernel_rfl) (by kernel_rfl) _ rfl
        clear hin hout
        intro K Q hK
        go_simp
        exact hK _ _ ⟨Same.refl _, rfl⟩
      refine allp_mild 0 rfl rfl rfl (fun a x W hout hin hP => ?_) ?_
      · have e37 := hin.is 11 37 (by kernel_rfl) (by decide) (by kernel_rfl) (by kernel_rfl) _ rfl
        have hS : Slice W (.slice (some ⟨g, o + 6, none⟩) 4 (cc - 6)) ((q.drop 6).take 4) := (((HBA.out.call hP.below).drop 6).take 4).slice (by rw [List.length_take, List.length_drop, HQL.out]; rfl) (by have := HCC.out; omega)
        have C := refnum_any _ _ W hS (by rw [List.length_take]; omega)
        rw [HU.out] at C
        clear hP hS
        clear hin hout
        intro K Q hK
        go_simp
        refine C.mono ?_
        rintro e W' ⟨rfl, rfl⟩
        exact hK _ _ ⟨Same.refl _, rfl⟩
      refine allp_mild 0 rfl rfl rfl (fun a x W hout hin hP => ?_) ?_
      · have e0 : a.tmps[0]? = some (.slice (some ⟨g, o, none⟩) 46 cc) := (hout 0 (by kernel_rfl)).trans rfl
        exact does_move rfl e0 ⟨Same.refl _, rfl⟩
      refine allp_mild 0 rfl rfl rfl (fun a x W hout hin hP => ?_) ?_
      · have e39 := hin.is 13 39 (by kernel_rfl) (by decide) (by kernel_rfl) (by kernel_rfl) _ rfl
        clear hin hout
        intro K Q hK
        go_simp
        exact hK _ _ ⟨Same.refl _, rfl⟩
      refine allp_mild 0 rfl rfl rfl (fun a x W hout hin hP => ?_) ?_
      · have e40 := hin.is 14 40 (by kernel_rfl) (by decide) (by kernel_rfl) (by kernel_rfl) _ rfl
        have hS : Slice W (.slice (some ⟨g, o + 10, none⟩) 4 (cc - 10)) ((q.drop 10).take 4) := (((HBA.out.call hP.below).drop 10).take 4).slice (by rw [List.length_take, List.length_drop, HQL.out]; rfl) (by have := HCC.out; omega)
        have C := refnum_any _ _ W hS (by rw [List.length_take]; omega)
        rw [HV.out] at C
        clear hP hS
        clear hin hout
        intro K Q hK
        go_simp
        refine C.mono ?_
        rintro e W' ⟨rfl, rfl⟩
        exact hK _ _ ⟨Same.refl _, rfl⟩
      refine allp_mild 0 rfl rfl rfl (fun a x W hout hin hP => ?_) ?_
      · have e29 := hin.is 3 29 (by kernel_rfl) (by decide) (by kernel_rfl) (by kernel_rfl) _ rfl
        have e31 := hin.is 5 31 (by kernel_rfl) (by decide) (by kernel_rfl) (by kernel_rfl) _ rfl
        have e35 := hin.is 9 35 (by kernel_rfl) (by decide) (by kernel_rfl) (by kernel_rfl) _ rfl
        have e38 := hin.is 12 38 (by kernel_rfl) (by decide) (by kernel_rfl) (by kernel_rfl) _ rfl
        have e41 := hin.is 15 41 (by kernel_rfl) (by decide) (by kernel_rfl) (by kernel_rfl) _ rfl
        clear hin hout
        intro K Q hK
        refine wp_buildStruct 24 _ rfl places_clm [.int .i64 (bd x0), .string (strB nm), .int .i64 (bd x5), .int .u32 (wd u), .int .u32 (wd v)] ?_ rfl rfl ?_
        · simp only [List.map_toArray, List.map_cons, List.map_nil, eval_of_get e29, eval_of_get e31, eval_of_get e35, eval_of_get e38, eval_of_get e41]; rfl
        · exact hK _ _ ⟨Same.refl _, by rw [HCQ.out]; rfl⟩
      refine allp_mild 0 rfl rfl rfl (fun a x W hout hin hP => ?_) ?_
      · have e5 : a.tmps[5]? = some (.pointer (some ⟨g5, 0, none⟩)) := (hout 5 (by kernel_rfl)).trans rfl
        clear hin hout
        intro K Q hK
        go_simp
        exact hK _ _ ⟨Same.refl _, rfl⟩
      refine allp_wild 0 rfl rfl rfl (fun a x W hout hin hP => ?_) ?_
      · have e43 := hin.is 17 43 (by kernel_rfl) (by decide) (by kernel_rfl) (by kernel_rfl) _ rfl
        have e42 := hin.is 16 42 (by kernel_rfl) (by decide) (by kernel_rfl) (by kernel_rfl) _ rfl
        clear hin hout
        intro K Q hK
        exact wp_st_store hP 2 0 24 (.tmp 43) (.tmp 42) rfl rfl (eval_of_get e43) (.agg (clmCells X)) (eval_of_get e42) (by exact size_clm) (by show 0 + 5 ≤ (tokCells clm0 (zer 32)).size; rw [tok_size _ _ (length_zer 32)]; decide) (by unfold clmCells; simp [Value.cells, Value.oneCell']) (tokCells X (zer 32)) (spl_clm clm0 X (zer 32)) (fun W' HSx => hK _ _ ⟨HSx, trivial⟩)
      exact all_end (by decide)
    · intro x V5 hP hV
      have HS5 := Lib.hid hP
      clear hV hP
      simp only [putL, Act.put, List.setIfInBounds_toArray, List.set_cons_succ, List.set_cons_zero]
      simp only [Nat.zero_add, Nat.reduceAdd]
      refine wpAnyH_done (by kernel_rfl) ?_ _
      go_upto_region 6 with fail
      have hF0 : Wl [fun W => St w noF [⟨g2, 28, tokCells clm0 (zer 32)⟩, ⟨g4, 64, nmC nm ok⟩, ⟨g5, 28, tokCells X (zer 32)⟩] W, fun W => St w noF [⟨g2, 28, tokCells clm0 (zer 32)⟩, ⟨g4, 64, nmC nm ok⟩, ⟨g5, 28, tokCells X G⟩] W] 0 V5.drew := HS5.out.drew
      clear HS5
      refine wp_region_phs [is (.pointer (some ⟨g5, 5, none⟩)), is (.slice (some ⟨g5, 5, none⟩) 32 32), is (.slice (some ⟨g, o, none⟩) 46 cc), is (.slice (some ⟨g, o + 14, none⟩) 32 (cc - 14)), anyV] [true, true, true, true, true] [(fun W => St w noF [⟨g2, 28, tokCells clm0 (zer 32)⟩, ⟨g4, 64, nmC nm ok⟩, ⟨g5, 28, tokCells X (zer 32)⟩] W), (fun W => St w noF [⟨g2, 28, tokCells clm0 (zer 32)⟩, ⟨g4, 64, nmC nm ok⟩, ⟨g5, 28, tokCells X G⟩] W)] [false, false, false, false, true] [some 0, some 0, some 0, some 0, some 0] [some 44, some 45, some 46, some 47, some 48] 5 1 (fun _ => true) rfl rfl (by kernel_rfl) (by kernel_rfl) (by kernel_rfl) (by kernel_rfl) ?_ ?_ ?_ ?_ ?_ ?_
      · repeat first | exact wok_nil | refine wok_cons (by first | exact fun _ _ h k => h.same k) ?_
      · repeat first | exact vok_nil | refine vok_rig (by first | exact fun _ _ _ h => h) ?_ | refine vok_soft (by first | exact fun _ _ _ h _ => h) ?_
      · exact hF0
      · repeat first | exact all_end (by decide) | refine all_cons (by first | exact rfl | exact ⟨rfl, fun _ _ h => Or.inl h⟩ | exact ⟨rfl, fun _ _ h => Or.inr ⟨h, rfl⟩⟩) ?_
      · refine allp_mild 0 rfl rfl rfl (fun a x W hout hin hP => ?_) ?_
        · have e5 : a.tmps[5]? = some (.pointer (some ⟨g5, 0, none⟩)) := (hout 5 (by kernel_rfl)).trans rfl
          clear hin hout
          intro K Q hK
          go_simp
          exact hK _ _ ⟨Same.refl _, rfl⟩
        refine allp_mild 0 rfl rfl rfl (fun a x W hout hin hP => ?_) ?_
        · have e44 := hin.is 0 44 (by kernel_rfl) (by decide) (by kernel_rfl) (by kernel_rfl) _ rfl
          clear hin hout
          intro K Q hK
          go_simp
          exact hK _ _ ⟨Same.refl _, rfl⟩
        refine allp_mild 0 rfl rfl rfl (fun a x W hout hin hP => ?_) ?_
        · have e0 : a.tmps[0]? = some (.slice (some ⟨g, o, none⟩) 46 cc) := (hout 0 (by kernel_rfl)).trans rfl
          exact does_move rfl e0 ⟨Same.refl _, rfl⟩
        refine allp_mild 0 rfl rfl rfl (fun a x W hout hin hP => ?_) ?_
        · have e46 := hin.is 2 46 (by kernel_rfl) (by decide) (by kernel_rfl) (by kernel_rfl) _ rfl
          clear hin hout
          intro K Q hK
          go_simp
          exact hK _ _ ⟨Same.refl _, rfl⟩
        refine allp_wild 0 rfl rfl rfl (fun a x W hout hin hP => ?_) ?_
        · have e45 := hin.is 1 45 (by kernel_rfl) (by decide) (by kernel_rfl) (by kernel_rfl) _ rfl
          have e47 := hin.is 3 47 (by kernel_rfl) (by decide) (by kernel_rfl) (by kernel_rfl) _ rfl
          clear hin hout
          intro K Q hK
          have sq : Slice W (.slice (some ⟨g, o + 14, none⟩) 32 (cc - 14)) G := HGE.out ▸ ((HBA.out.call hP.below).drop 14).slice (by rw [List.length_drop, HQL.out]) (by have := HCC.out; omega)
          refine wp_copy_any (.tmp 45) (.tmp 47) rfl g5 5 32 32 (eval_of_get e45) _ (eval_of_get e47) G sq 28 _ (hP.row 2 rfl) (by show 5 + G.length ≤ (tokCells X (zer 32)).size; rw [HGL.out, tok_size _ _ (length_zer 32)]; decide) (by rw [HGL.out]; exact Nat.le_refl _) ?_
          intro W' r5 hg
          rw [spl_tag X (zer 32) G (by rw [HGL.out]; exact length_zer 32)] at r5
          exact hK _ _ ⟨hP.upd 2 rfl r5 hg, trivial⟩
        exact all_end (by decide)
      · intro x V hP hV
        have HS : St w noF [⟨g2, 28, tokCells clm0 (zer 32)⟩, ⟨g4, 64, nmC nm ok⟩, ⟨g5, 28, tokCells X G⟩] V := hP
        clear hV hP
        simp only [putL, Act.put, List.setIfInBounds_toArray, List.set_cons_succ, List.set_cons_zero]
        simp only [Nat.zero_add, Nat.reduceAdd]
        refine wpAnyH_done (by kernel_rfl) ?_ _
        go_wp2_with (first | ((with_reducible refine wpList_plain ?_ ?_); exact rfl; intro KK hKK; refine wp_st_load HS 2 0 28 (.tmp 5) rfl rfl rfl (tokCells X G) (slab_whole _) _ Tryd.underlying28 rfl (by rw [tok_size _ _ HGL.out]; exact size_tok) (hKK _ _ ?_); clear hKK KK))
        refine (HEN.out _).mono ?_
        rintro e V7 ⟨rfl, hb⟩
        have HSx := HS.same hb
        clear HS hb HEN
        have HS := HSx
        clear HSx
        go_wp2_with (first | ((with_reducible refine wpList_plain ?_ ?_); exact rfl; intro KK hKK; refine wp_st_store HS 0 0 28 (.tmp 2) (.tmp 63) rfl rfl rfl (.agg #[.int .i64 0, .string ⟨#[]⟩, .int .i64 0, .int .u32 0, .int .u32 0, .int .u8 0, .int .u8 0, .int .u8 0, .int .u8 0, .int .u8 0, .int .u8 0, .int .u8 0, .int .u8 0, .int .u8 0, .int .u8 0, .int .u8 0, .int .u8 0, .int .u8 0, .int .u8 0, .int .u8 0, .int .u8 0, .int .u8 0, .int .u8 0, .int .u8 0, .int .u8 0, .int .u8 0, .int .u8 0, .int .u8 0, .int .u8 0, .int .u8 0, .int .u8 0, .int .u8 0, .int .u8 0, .int .u8 0, .int .u8 0, .int .u8 0, .int .u8 0]) rfl (by exact size_tok) (by rw [tok_size _ _ (length_zer 32)]; exact Nat.le_refl 37) (by exact zeros_one) (tokCells clm0 (zer 32)) (spl_agg _ _ _ zeros_tok (by rw [tok_size _ _ (length_zer 32)]; rfl)) (fun W71 HSx => hKK _ _ ?_); clear hKK KK HS; have HS : St w noF [⟨g2, 28, tokCells clm0 (zer 32)⟩, ⟨g4, 64, nmC nm ok⟩, ⟨g5, 28, tokCells X G⟩] W71 := HSx; clear HSx))
        exact bodyPost_ret (v := .tuple #[.agg (tokCells clm0 (zer 32)), .int .i64 11]) (results_cell_tmp Tryd.results25 _ _ g2 28 (tokCells clm0 (zer 32)) (0, 0) _ rfl (HS.row 0 rfl) Tryd.underlying28 rfl (by first | exact size_tok | (rw [tok_size _ _ HGL.out]; exact size_tok))) rfl ⟨rfl, HS.below⟩
set_option maxRecDepth 20000 in
set_option maxHeartbeats 1600000 in
theorem rtokdec_not (g o cc : Nat) (q : List (BitVec 8)) (w : World) (hB : BAt w g o q) (hl : q.length = 46) (hc : 46 ≤ cc) (hm : mayC (clmQ q) = true) (hpq : decide (clmB (clmQ q) ++ q.drop 14 = q) = false) :
    Calls Tryd.prog 25 #[.slice (some ⟨g, o, none⟩) 46 cc] w fun e w' => e = .returned (.tuple #[.agg (tokCells clm0 (zer 32)), .int .i64 11]) ∧ Below w.heap.size w w' := by
  have HBA := Lib.hid hB
  have HQL := Lib.hid hl
  have HCC := Lib.hid hc
  have k6 : ¬ cc = 6 := by omega
  have k10 : ¬ cc = 10 := by omega
  have k14 : ¬ cc = 14 := by omega
  have l6 : 6 ≤ cc := by omega
  have l10 : 10 ≤ cc := by omega
  have l14 : 14 ≤ cc := by omega
  have l46 : 46 ≤ cc := by omega
  have i10 : (10 : Int) ≤ (cc : Int) := by omega
  have i14 : (14 : Int) ≤ (cc : Int) := by omega
  have i46 : (46 : Int) ≤ (cc : Int) := by omega
  obtain ⟨b4, hb4⟩ : ∃ b4, (q.drop 1).take 4 = b4 := ⟨_, rfl⟩
  have HB4 : Hid (b4.length = 4) := Lib.hid (by rw [← hb4, List.length_take, List.length_drop, hl]; rfl)
  obtain ⟨x0, hx0⟩ : ∃ x, q.getD 0 0#8 = x := ⟨_, rfl⟩
  obtain ⟨x1, hx1⟩ : ∃ x, q.getD 1 0#8 = x := ⟨_, rfl⟩
  obtain ⟨x2, hx2⟩ : ∃ x, q.getD 2 0#8 = x := ⟨_, rfl⟩
  obtain ⟨x3, hx3⟩ : ∃ x, q.getD 3 0#8 = x := ⟨_, rfl⟩
  obtain ⟨x4, hx4⟩ : ∃ x, q.getD 4 0#8 = x := ⟨_, rfl⟩
  obtain ⟨x5, hx5⟩ : ∃ x, q.getD 5 0#8 = x := ⟨_, rfl⟩
  have HB4E : Hid ([x1, x2, x3, x4] = b4) := Lib.hid (by rw [← hb4, piece4 q 1 (by rw [hl]; decide), ← hx1, ← hx2, ← hx3, ← hx4])
  obtain ⟨u, hu⟩ : ∃ u, lv 0 (q.drop 6) = u := ⟨_, rfl⟩
  obtain ⟨v, hv⟩ : ∃ v, lv 0 (q.drop 10) = v := ⟨_, rfl⟩
  have HX0 := Lib.hid hx0
  have HX1 := Lib.hid hx1
  have HX2 := Lib.hid hx2
  have HX3 := Lib.hid hx3
  have HX4 := Lib.hid hx4
  have HX5 := Lib.hid hx5
  have HU : Hid (num ((q.drop 6).take 4) = u) := Lib.hid (by rw [← hu, lv_num _ 0 (by rw [List.length_drop, hl]; decide), List.drop_zero])
  have HV : Hid (num ((q.drop 10).take 4) = v) := Lib.hid (by rw [← hv, lv_num _ 0 (by rw [List.length_drop, hl]; decide), List.drop_zero])
  have HCUT := Lib.hid (fun W => refcutn_any b4 W HB4.out)
  obtain ⟨nm, hnm⟩ : ∃ nm, (cutN b4).1 = nm := ⟨_, rfl⟩
  obtain ⟨ok, hok⟩ : ∃ ok, (cutN b4).2 = ok := ⟨_, rfl⟩
  rw [hnm, hok] at HCUT
  have hnl : nm.length ≤ maxLen := by rw [← hnm]; have := cut_len HB4.out; unfold maxLen; omega
  obtain ⟨X, hX⟩ : ∃ X, clmQ q = X := ⟨_, rfl⟩
  obtain ⟨G, hG⟩ : ∃ G, q.drop 14 = G := ⟨_, rfl⟩
  have HCQ : Hid (X = ⟨bd x0, nm, bd x5, u, v⟩) := Lib.hid (by rw [← hX, ← hx0, ← hx5, ← hu, ← hv, ← hnm, ← hb4]; rfl)
  have HGL : Hid (G.length = 32) := Lib.hid (by rw [← hG, List.length_drop, hl])
  have HGE := Lib.hid hG
  have hxn : X.n.length ≤ maxLen := by rw [HCQ.out]; exact hnl
  rw [hX] at hm
  have HEN := Lib.hid (fun W => rtokenc_good X G W HGL.out hxn hm)
  obtain ⟨P, hP⟩ : ∃ P, clmB X ++ G = P := ⟨_, rfl⟩
  rw [hP] at HEN
  have HPQ : Hid (decide (P = q) = false) := Lib.hid (by rw [← hP, ← hX, ← hG, hpq])
  clear hpq hP
  clear hB hl hc hb4 hx0 hx1 hx2 hx3 hx4 hx5 hu hv hnm hok hX hG hm hxn hnl
  have HS := St.nil w noF
  go_enter Tryd.func25, Tryd.ntmps25
  go_upto_region 1 with (first | ((with_reducible refine wpList_plain ?_ ?_); exact rfl; intro KK hKK; refine wp_st_alloc HS 28 (tokCells clm0 (zer 32)) rfl (.agg (tokCells clm0 (zer 32))) (by exact zero_tok) (rfl) (fun g2 W1 HSx => hKK _ _ ?_); clear hKK KK HS; have HS : St w noF [⟨g2, 28, tokCells clm0 (zer 32)⟩] W1 := HSx; clear HSx))
  have HS := HS
  obtain ⟨B0, hB0⟩ : ∃ B0, W1.heap.size = B0 := ⟨_, rfl⟩
  have HB0 : Hid (w.heap.size ≤ B0) := Lib.hid (by rw [← hB0]; exact HS.below.size)
  have HLT : Hid (∀ b ∈ ([⟨g2, 28, tokCells clm0 (zer 32)⟩] : List Blk), b.g < B0) := Lib.hid (by rw [← hB0]; exact fun b hb => HS.lt hb)
  have HBB : Hid (B0 ≤ W1.heap.size) := Lib.hid (Nat.le_of_eq hB0.symm)
  clear hB0
  go_upto_region 3 with fail
  have hF0 : Wl [fun W => St w noF [⟨g2, 28, tokCells clm0 (zer 32)⟩] W ∧ B0 ≤ W.heap.size, fun W => St w noF [⟨g2, 28, tokCells clm0 (zer 32)⟩] W ∧ B0 ≤ W.heap.size] 0 W1.drew := ⟨HS.drew, HBB.out⟩
  clear HS HBB
  refine wp_region_phas [is (.slice (some ⟨g, o, none⟩) 46 cc), is (.pointer (some ⟨g, o + 1, none⟩)), is (.int .u8 (bd x1)), is (.slice (some ⟨g, o, none⟩) 46 cc), is (.pointer (some ⟨g, o + 2, none⟩)), is (.int .u8 (bd x2)), is (.slice (some ⟨g, o, none⟩) 46 cc), is (.pointer (some ⟨g, o + 3, none⟩)), is (.int .u8 (bd x3)), is (.slice (some ⟨g, o, none⟩) 46 cc), is (.pointer (some ⟨g, o + 4, none⟩)), is (.int .u8 (bd x4)), is (.agg (bs b4)), is (.agg (nmC nm ok)), (fun v W => ∃ k, v = Value.pointer (some ⟨k, 0, none⟩) ∧ Row W k 64 (nmC [] false) ∧ B0 ≤ k), (fun v W => ∃ k, v = Value.pointer (some ⟨k, 0, none⟩) ∧ Row W k 64 (nmC nm ok) ∧ B0 ≤ k)] [true, true, true, true, true, true, true, true, true, true, true, true, true, true, false, false] [(fun W => St w noF [⟨g2, 28, tokCells clm0 (zer 32)⟩] W ∧ B0 ≤ W.heap.size), (fun W => St w noF [⟨g2, 28, tokCells clm0 (zer 32)⟩] W ∧ B0 ≤ W.heap.size)] [false, false, false, false, false, false, false, false, false, false, false, false, false, false, false, true] [some 0, some 0, some 0, some 0, some 0, some 0, some 0, some 0, some 0, some 0, some 0, some 0, some 0, some 0, some 0, some 0] [none, none, none, none, none, none, none, none, none, none, none, none, none, none, none, some 14] [some 12, some 13, some 14, some 15, some 16, some 17, some 18, some 19, some 20, some 21, some 22, some 23, some 24, some 25, some 4, none] 16 1 (fun _ => true) rfl rfl (by kernel_rfl) (by kernel_rfl) (by kernel_rfl) (by kernel_rfl) (by kernel_rfl) ?_ ?_ ?_ ?_ ?_ ?_
  · repeat first | exact wok_nil | refine wok_cons (by first | exact fun _ _ h k => ⟨h.1.same k, Nat.le_trans h.2 k.size⟩) ?_
  · repeat first | exact vok_nil | refine vok_rig (by first | exact fun _ _ _ h => h) ?_ | refine vok_soft (by first | exact fun _ _ _ h _ => h | exact fun _ _ _ h k => ⟨h.choose, h.choose_spec.1, h.choose_spec.2.1.call k, h.choose_spec.2.2⟩) ?_
  · exact hF0
  · repeat first | exact all_end (by decide) | refine all_cons (by first | exact rfl | exact ⟨rfl, fun _ _ h => Or.inl h⟩ | exact ⟨rfl, fun _ _ h => Or.inr ⟨h, rfl⟩⟩) ?_
  · refine alla_old rfl (step_mild 0 rfl rfl rfl (fun a x W hout hin hP => ?_)) ?_
    · have e0 : a.tmps[0]? = some (.slice (some ⟨g, o, none⟩) 46 cc) := (hout 0 (by kernel_rfl)).trans rfl
      exact does_move rfl e0 ⟨Same.refl _, rfl⟩
    refine alla_old rfl (step_mild 0 rfl rfl rfl (fun a x W hout hin hP => ?_)) ?_
    · have e12 := hin.is 0 12 (by kernel_rfl) (by decide) (by kernel_rfl) (by kernel_rfl) _ rfl
      clear hin hout
      intro K Q hK
      go_simp
      exact hK _ _ ⟨Same.refl _, rfl⟩
    refine alla_old rfl (step_mild 0 rfl rfl rfl (fun a x W hout hin hP => ?_)) ?_
    · have e13 := hin.is 1 13 (by kernel_rfl) (by decide) (by kernel_rfl) (by kernel_rfl) _ rfl
      have hc : W.cell? ⟨g, o + 1, none⟩ = some (.int .u8 (bd x1)) := HX1.out ▸ (HBA.out.call (hP.1).below).get 1 (by rw [HQL.out]; decide)
      clear hP
      clear hin hout
      intro K Q hK
      go_simp
      exact hK _ _ ⟨Same.refl _, rfl⟩
    refine alla_old rfl (step_mild 0 rfl rfl rfl (fun a x W hout hin hP => ?_)) ?_
    · have e0 : a.tmps[0]? = some (.slice (some ⟨g, o, none⟩) 46 cc) := (hout 0 (by kernel_rfl)).trans rfl
      exact does_move rfl e0 ⟨Same.refl _, rfl⟩
    refine alla_old rfl (step_mild 0 rfl rfl rfl (fun a x W hout hin hP => ?_)) ?_
    · have e15 := hin.is 3 15 (by kernel_rfl) (by decide) (by kernel_rfl) (by kernel_rfl) _ rfl
      clear hin hout
      intro K Q hK
      go_simp
      exact hK _ _ ⟨Same.refl _, rfl⟩
    refine alla_old rfl (step_mild 0 rfl rfl rfl (fun a x W hout hin hP => ?_)) ?_
    · have e16 := hin.is 4 16 (by kernel_rfl) (by decide) (by kernel_rfl) (by kernel_rfl) _ rfl
      have hc : W.cell? ⟨g, o + 2, none⟩ = some (.int .u8 (bd x2)) := HX2.out ▸ (HBA.out.call (hP.1).below).get 2 (by rw [HQL.out]; decide)
      clear hP
      clear hin hout
      intro K Q hK
      go_simp
      exact hK _ _ ⟨Same.refl _, rfl⟩
    refine alla_old rfl (step_mild 0 rfl rfl rfl (fun a x W hout hin hP => ?_)) ?_
    · have e0 : a.tmps[0]? = some (.slice (some ⟨g, o, none⟩) 46 cc) := (hout 0 (by kernel_rfl)).trans rfl
      exact does_move rfl e0 ⟨Same.refl _, rfl⟩
    refine alla_old rfl (step_mild 0 rfl rfl rfl (fun a x W hout hin hP => ?_)) ?_
    · have e18 := hin.is 6 18 (by kernel_rfl) (by decide) (by kernel_rfl) (by kernel_rfl) _ rfl
      clear hin hout
      intro K Q hK
      go_simp
      exact hK _ _ ⟨Same.refl _, rfl⟩
    refine alla_old rfl (step_mild 0 rfl rfl rfl (fun a x W hout hin hP => ?_)) ?_
    · have e19 := hin.is 7 19 (by kernel_rfl) (by decide) (by kernel_rfl) (by kernel_rfl) _ rfl
      have hc : W.cell? ⟨g, o + 3, none⟩ = some (.int .u8 (bd x3)) := HX3.out ▸ (HBA.out.call (hP.1).below).get 3 (by rw [HQL.out]; decide)
      clear hP
      clear hin hout
      intro K Q hK
      go_simp
      exact hK _ _ ⟨Same.refl _, rfl⟩
    refine alla_old rfl (step_mild 0 rfl rfl rfl (fun a x W hout hin hP => ?_)) ?_
    · have e0 : a.tmps[0]? = some (.slice (some ⟨g, o, none⟩) 46 cc) := (hout 0 (by kernel_rfl)).trans rfl
      exact does_move rfl e0 ⟨Same.refl _, rfl⟩
    refine alla_old rfl (step_mild 0 rfl rfl rfl (fun a x W hout hin hP => ?_)) ?_
    · have e21 := hin.is 9 21 (by kernel_rfl) (by decide) (by kernel_rfl) (by kernel_rfl) _ rfl
      clear hin hout
      intro K Q hK
      go_simp
      exact hK _ _ ⟨Same.refl _, rfl⟩
    refine alla_old rfl (step_mild 0 rfl rfl rfl (fun a x W hout hin hP => ?_)) ?_
    · have e22 := hin.is 10 22 (by kernel_rfl) (by decide) (by kernel_rfl) (by kernel_rfl) _ rfl
      have hc : W.cell? ⟨g, o + 4, none⟩ = some (.int .u8 (bd x4)) := HX4.out ▸ (HBA.out.call (hP.1).below).get 4 (by rw [HQL.out]; decide)
      clear hP
      clear hin hout
      intro K Q hK
      go_simp
      exact hK _ _ ⟨Same.refl _, rfl⟩
    refine alla_old rfl (step_mild 0 rfl rfl rfl (fun a x W hout hin hP => ?_)) ?_
    · have e14 := hin.is 2 14 (by kernel_rfl) (by decide) (by kernel_rfl) (by kernel_rfl) _ rfl
      have e17 := hin.is 5 17 (by kernel_rfl) (by decide) (by kernel_rfl) (by kernel_rfl) _ rfl
      have e20 := hin.is 8 20 (by kernel_rfl) (by decide) (by kernel_rfl) (by kernel_rfl) _ rfl
      have e23 := hin.is 11 23 (by kernel_rfl) (by decide) (by kernel_rfl) (by kernel_rfl) _ rfl
      rw [← HB4E.out]
      clear hP
      clear hin hout
      intro K Q hK
      go_simp
      exact hK _ _ ⟨Same.refl _, rfl⟩
    refine alla_old rfl (step_mild 0 rfl rfl rfl (fun a x W hout hin hP => ?_)) ?_
    · have e24 := hin.is 12 24 (by kernel_rfl) (by decide) (by kernel_rfl) (by kernel_rfl) _ rfl
      have C := HCUT.out W
      clear hP
      clear hin hout
      intro K Q hK
      go_simp
      refine C.mono ?_
      rintro e W' ⟨rfl, hb⟩
      exact hK _ _ ⟨hb, rfl⟩
    refine alla_old rfl (step_mild 0 rfl rfl rfl (fun a x W hout hin hP => ?_)) ?_
    · have hbse := hP.2
      clear hP hin hout
      intro K Q hK
      refine wp_new_row 64 (nmC [] false) rfl zero_nm ?_
      exact hK _ _ ⟨Same.alloc _ _, _, rfl, Row.fresh _ _ _, hbse⟩
    refine alla_wild 0 rfl rfl rfl (fun a x W hout hin hP => ?_) ?_
    · obtain ⟨hw14, hx14⟩ := hin 14 (by kernel_rfl) (by decide)
      have hw14 := hw14 (.inr ⟨rfl, by kernel_rfl⟩)
      have hx14 := hx14 4 (by kernel_rfl)
      have e25 := hin.is 13 25 (by kernel_rfl) (by decide) (by kernel_rfl) (by kernel_rfl) _ rfl
      obtain ⟨g6, hg6, r6, hb6⟩ := hw14
      rw [hg6] at hx14
      clear hin hout
      intro K Q hK
      refine wp_store_row 64 (.tmp 4) (.tmp 25) rfl g6 (nmC nm ok) (eval_of_get hx14) (eval_of_get e25) 64 (nmC [] false) r6 (by exact size_nm) rfl (one_nm _ _) ?_
      have hgr := grown_setRow W g6 (nmC nm ok)
      exact hK (x 14) _ ⟨⟨hP.1.far hgr (Nat.le_trans HB0.out hb6) (fun b hb => by have := HLT.out b hb; omega), Nat.le_trans hP.2 hgr.size⟩, ⟨g6, hg6, r6.setRow _, hb6⟩, al_one rfl rfl⟩
    exact all_end (by decide)
  · intro x W hP hV hal
    obtain ⟨g4, h8, r4, hb4⟩ := hV 15 (by decide) (.inr (by kernel_rfl))
    have h7 : x 14 = .pointer (some ⟨g4, 0, none⟩) := (hal 15 (by decide) 14 rfl).symm.trans h8
    have HS : St w noF [⟨g2, 28, tokCells clm0 (zer 32)⟩, ⟨g4, 64, nmC nm ok⟩] W := hP.1.join r4 (Nat.le_trans HB0.out hb4) (fun b hb => by have := HLT.out b hb; omega)
    clear hV hP hal h8 r4 hb4
    simp only [putL, Act.put, List.setIfInBounds_toArray, List.set_cons_succ, List.set_cons_zero, h7]
    simp only [Nat.zero_add, Nat.reduceAdd]
    refine wpAnyH_done (by kernel_rfl) ?_ _
    clear h7
    go_upto_region 5 with (first | ((with_reducible refine wpList_plain ?_ ?_); exact rfl; intro KK hKK; refine wp_st_alloc HS 28 (tokCells clm0 (zer 32)) rfl (.agg (tokCells clm0 (zer 32))) (by exact zero_tok) (rfl) (fun g5 W21 HSx => hKK _ _ ?_); clear hKK KK HS; have HS : St w noF [⟨g2, 28, tokCells clm0 (zer 32)⟩, ⟨g4, 64, nmC nm ok⟩, ⟨g5, 28, tokCells clm0 (zer 32)⟩] W21 := HSx; clear HSx))
    have hF0 : Wl [fun W => St w noF [⟨g2, 28, tokCells clm0 (zer 32)⟩, ⟨g4, 64, nmC nm ok⟩, ⟨g5, 28, tokCells clm0 (zer 32)⟩] W, fun W => St w noF [⟨g2, 28, tokCells clm0 (zer 32)⟩, ⟨g4, 64, nmC nm ok⟩, ⟨g5, 28, tokCells X (zer 32)⟩] W] 0 W21.drew := HS.drew
    clear HS
    refine wp_region_phs [is (.slice (some ⟨g, o, none⟩) 46 cc), is (.pointer (some ⟨g, o, none⟩)), is (.int .u8 (bd x0)), is (.int .i64 (bd x0)), is (.pointer (some ⟨g4, 0, none⟩)), is (.string (strB nm)), is (.slice (some ⟨g, o, none⟩) 46 cc), is (.pointer (some ⟨g, o + 5, none⟩)), is (.int .u8 (bd x5)), is (.int .i64 (bd x5)), is (.slice (some ⟨g, o, none⟩) 46 cc), is (.slice (some ⟨g, o + 6, none⟩) 4 (cc - 6)), is (.int .u32 (wd u)), is (.slice (some ⟨g, o, none⟩) 46 cc), is (.slice (some ⟨g, o + 10, none⟩) 4 (cc - 10)), is (.int .u32 (wd v)), is (.agg (clmCells X)), is (.pointer (some ⟨g5, 0, none⟩)), anyV] [true, true, true, true, true, true, true, true, true, true, true, true, true, true, true, true, true, true, true] [(fun W => St w noF [⟨g2, 28, tokCells clm0 (zer 32)⟩, ⟨g4, 64, nmC nm ok⟩, ⟨g5, 28, tokCells clm0 (zer 32)⟩] W), (fun W => St w noF [⟨g2, 28, tokCells clm0 (zer 32)⟩, ⟨g4, 64, nmC nm ok⟩, ⟨g5, 28, tokCells X (zer 32)⟩] W)] [false, false, false, false, false, false, false, false, false, false, false, false, false, false, false, false, false, false, true] [some 0, some 0, some 0, some 0, some 0, some 0, some 0, some 0, some 0, some 0, some 0, some 0, some 0, some 0, some 0, some 0, some 0, some 0, some 0] [some 26, some 27, some 28, some 29, some 30, some 31, some 32, some 33, some 34, some 35, some 36, some 37, some 38, some 39, some 40, some 41, some 42, some 43, none] 19 1 (fun _ => true) rfl rfl (by kernel_rfl) (by kernel_rfl) (by kernel_rfl) (by kernel_rfl) ?_ ?_ ?_ ?_ ?_ ?_
    · repeat first | exact wok_nil | refine wok_cons (by first | exact fun _ _ h k => h.same k) ?_
    · repeat first | exact vok_nil | refine vok_rig (by first | exact fun _ _ _ h => h) ?_ | refine vok_soft (by first | exact fun _ _ _ h _ => h) ?_
    · exact hF0
    · repeat first | exact all_end (by decide) | refine all_cons (by first | exact rfl | exact ⟨rfl, fun _ _ h => Or.inl h⟩ | exact ⟨rfl, fun _ _ h => Or.inr ⟨h, rfl⟩⟩) ?_
    · refine allp_mild 0 rfl rfl rfl (fun a x W hout hin hP => ?_) ?_
      · have e0 : a.tmps[0]? = some (.slice (some ⟨g, o, none⟩) 46 cc) := (hout 0 (by kernel_rfl)).trans rfl
        exact does_move rfl e0 ⟨Same.refl _, rfl⟩
      refine allp_mild 0 rfl rfl rfl (fun a x W hout hin hP => ?_) ?_
      · have e26 := hin.is 0 26 (by kernel_rfl) (by decide) (by kernel_rfl) (by kernel_rfl) _ rfl
        clear hin hout
        intro K Q hK
        go_simp
        exact hK _ _ ⟨Same.refl _, rfl⟩
      refine allp_mild 0 rfl rfl rfl (fun a x W hout hin hP => ?_) ?_
      · have e27 := hin.is 1 27 (by kernel_rfl) (by decide) (by kernel_rfl) (by kernel_rfl) _ rfl
        have hc : W.cell? ⟨g, o, none⟩ = some (.int .u8 (bd x0)) := HX0.out ▸ (HBA.out.call (hP).below).get 0 (by rw [HQL.out]; decide)
        clear hP
        clear hin hout
        intro K Q hK
        go_simp
        exact hK _ _ ⟨Same.refl _, rfl⟩
      refine allp_mild 0 rfl rfl rfl (fun a x W hout hin hP => ?_) ?_
      · have e28 := hin.is 2 28 (by kernel_rfl) (by decide) (by kernel_rfl) (by kernel_rfl) _ rfl
        have hw := i64_bd x0
        clear hin hout
        intro K Q hK
        go_simp
        exact hK _ _ ⟨Same.refl _, rfl⟩
      refine allp_mild 0 rfl rfl rfl (fun a x W hout hin hP => ?_) ?_
      · have e4 : a.tmps[4]? = some (.pointer (some ⟨g4, 0, none⟩)) := (hout 4 (by kernel_rfl)).trans rfl
        clear hin hout
        intro K Q hK
        go_simp
        exact hK _ _ ⟨Same.refl _, rfl⟩
      refine allp_mild 0 rfl rfl rfl (fun a x W hout hin hP => ?_) ?_
      · have e30 := hin.is 4 30 (by kernel_rfl) (by decide) (by kernel_rfl) (by kernel_rfl) _ rfl
        have hc : W.cell? ⟨g4, 0, none⟩ = some (.string (strB nm)) := (hP.row 1 rfl).get rfl
        clear hP
        clear hin hout
        intro K Q hK
        go_simp
        exact hK _ _ ⟨Same.refl _, rfl⟩
      refine allp_mild 0 rfl rfl rfl (fun a x W hout hin hP => ?_) ?_
      · have e0 : a.tmps[0]? = some (.slice (some ⟨g, o, none⟩) 46 cc) := (hout 0 (by kernel_rfl)).trans rfl
        exact does_move rfl e0 ⟨Same.refl _, rfl⟩
      refine allp_mild 0 rfl rfl rfl (fun a x W hout hin hP => ?_) ?_
      · have e32 := hin.is 6 32 (by kernel_rfl) (by decide) (by kernel_rfl) (by kernel_rfl) _ rfl
        clear hin hout
        intro K Q hK
        go_simp
        exact hK _ _ ⟨Same.refl _, rfl⟩
      refine allp_mild 0 rfl rfl rfl (fun a x W hout hin hP => ?_) ?_
      · have e33 := hin.is 7 33 (by kernel_rfl) (by decide) (by kernel_rfl) (by kernel_rfl) _ rfl
        have hc : W.cell? ⟨g, o + 5, none⟩ = some (.int .u8 (bd x5)) := HX5.out ▸ (HBA.out.call (hP).below).get 5 (by rw [HQL.out]; decide)
        clear hP
        clear hin hout
        intro K Q hK
        go_simp
        exact hK _ _ ⟨Same.refl _, rfl⟩
      refine allp_mild 0 rfl rfl rfl (fun a x W hout hin hP => ?_) ?_
      · have e34 := hin.is 8 34 (by kernel_rfl) (by decide) (by kernel_rfl) (by kernel_rfl) _ rfl
        have hw := i64_bd x5
        clear hin hout
        intro K Q hK
        go_simp
        exact hK _ _ ⟨Same.refl _, rfl⟩
      refine allp_mild 0 rfl rfl rfl (fun a x W hout hin hP => ?_) ?_
      · have e0 : a.tmps[0]? = some (.slice (some ⟨g, o, none⟩) 46 cc) := (hout 0 (by kernel_rfl)).trans rfl
        exact does_move rfl e0 ⟨Same.refl _, rfl⟩
      refine allp_mild 0 rfl rfl rfl (fun a x W hout hin hP => ?_) ?_
      · have e36 := hin.is 10 36 (by kernel_rfl) (by decide) (by kernel_rfl) (by kernel_rfl) _ rfl
        clear hin hout
        intro K Q hK
        go_simp
        exact hK _ _ ⟨Same.refl _, rfl⟩
      refine allp_mild 0 rfl rfl rfl (fun a x W hout hin hP => ?_) ?_
      · have e37 := hin.is 11 37 (by kernel_rfl) (by decide) (by kernel_rfl) (by kernel_rfl) _ rfl
        have hS : Slice W (.slice (some ⟨g, o + 6, none⟩) 4 (cc - 6)) ((q.drop 6).take 4) := (((HBA.out.call hP.below).drop 6).take 4).slice (by rw [List.length_take, List.length_drop, HQL.out]; rfl) (by have := HCC.out; omega)
        have C := refnum_any _ _ W hS (by rw [List.length_take]; omega)
        rw [HU.out] at C
        clear hP hS
        clear hin hout
        intro K Q hK
        go_simp
        refine C.mono ?_
        rintro e W' ⟨rfl, rfl⟩
        exact hK _ _ ⟨Same.refl _, rfl⟩
      refine allp_mild 0 rfl rfl rfl (fun a x W hout hin hP => ?_) ?_
      · have e0 : a.tmps[0]? = some (.slice (some ⟨g, o, none⟩) 46 cc) := (hout 0 (by kernel_rfl)).trans rfl
        exact does_move rfl e0 ⟨Same.refl _, rfl⟩
      refine allp_mild 0 rfl rfl rfl (fun a x W hout hin hP => ?_) ?_
      · have e39 := hin.is 13 39 (by kernel_rfl) (by decide) (by kernel_rfl) (by kernel_rfl) _ rfl
        clear hin hout
        intro K Q hK
        go_simp
        exact hK _ _ ⟨Same.refl _, rfl⟩
      refine allp_mild 0 rfl rfl rfl (fun a x W hout hin hP => ?_) ?_
      · have e40 := hin.is 14 40 (by kernel_rfl) (by decide) (by kernel_rfl) (by kernel_rfl) _ rfl
        have hS : Slice W (.slice (some ⟨g, o + 10, none⟩) 4 (cc - 10)) ((q.drop 10).take 4) := (((HBA.out.call hP.below).drop 10).take 4).slice (by rw [List.length_take, List.length_drop, HQL.out]; rfl) (by have := HCC.out; omega)
        have C := refnum_any _ _ W hS (by rw [List.length_take]; omega)
        rw [HV.out] at C
        clear hP hS
        clear hin hout
        intro K Q hK
        go_simp
        refine C.mono ?_
        rintro e W' ⟨rfl, rfl⟩
        exact hK _ _ ⟨Same.refl _, rfl⟩
      refine allp_mild 0 rfl rfl rfl (fun a x W hout hin hP => ?_) ?_
      · have e29 := hin.is 3 29 (by kernel_rfl) (by decide) (by kernel_rfl) (by kernel_rfl) _ rfl
        have e31 := hin.is 5 31 (by kernel_rfl) (by decide) (by kernel_rfl) (by kernel_rfl) _ rfl
        have e35 := hin.is 9 35 (by kernel_rfl) (by decide) (by kernel_rfl) (by kernel_rfl) _ rfl
        have e38 := hin.is 12 38 (by kernel_rfl) (by decide) (by kernel_rfl) (by kernel_rfl) _ rfl
        have e41 := hin.is 15 41 (by kernel_rfl) (by decide) (by kernel_rfl) (by kernel_rfl) _ rfl
        clear hin hout
        intro K Q hK
        refine wp_buildStruct 24 _ rfl places_clm [.int .i64 (bd x0), .string (strB nm), .int .i64 (bd x5), .int .u32 (wd u), .int .u32 (wd v)] ?_ rfl rfl ?_
        · simp only [List.map_toArray, List.map_cons, List.map_nil, eval_of_get e29, eval_of_get e31, eval_of_get e35, eval_of_get e38, eval_of_get e41]; rfl
        · exact hK _ _ ⟨Same.refl _, by rw [HCQ.out]; rfl⟩
      refine allp_mild 0 rfl rfl rfl (fun a x W hout hin hP => ?_) ?_
      · have e5 : a.tmps[5]? = some (.pointer (some ⟨g5, 0, none⟩)) := (hout 5 (by kernel_rfl)).trans rfl
        clear hin hout
        intro K Q hK
        go_simp
        exact hK _ _ ⟨Same.refl _, rfl⟩
      refine allp_wild 0 rfl rfl rfl (fun a x W hout hin hP => ?_) ?_
      · have e43 := hin.is 17 43 (by kernel_rfl) (by decide) (by kernel_rfl) (by kernel_rfl) _ rfl
        have e42 := hin.is 16 42 (by kernel_rfl) (by decide) (by kernel_rfl) (by kernel_rfl) _ rfl
        clear hin hout
        intro K Q hK
        exact wp_st_store hP 2 0 24 (.tmp 43) (.tmp 42) rfl rfl (eval_of_get e43) (.agg (clmCells X)) (eval_of_get e42) (by exact size_clm) (by show 0 + 5 ≤ (tokCells clm0 (zer 32)).size; rw [tok_size _ _ (length_zer 32)]; decide) (by unfold clmCells; simp [Value.cells, Value.oneCell']) (tokCells X (zer 32)) (spl_clm clm0 X (zer 32)) (fun W' HSx => hK _ _ ⟨HSx, trivial⟩)
      exact all_end (by decide)
    · intro x V5 hP hV
      have HS5 := Lib.hid hP
      clear hV hP
      simp only [putL, Act.put, List.setIfInBounds_toArray, List.set_cons_succ, List.set_cons_zero]
      simp only [Nat.zero_add, Nat.reduceAdd]
      refine wpAnyH_done (by kernel_rfl) ?_ _
      go_upto_region 6 with fail
      have hF0 : Wl [fun W => St w noF [⟨g2, 28, tokCells clm0 (zer 32)⟩, ⟨g4, 64, nmC nm ok⟩, ⟨g5, 28, tokCells X (zer 32)⟩] W, fun W => St w noF [⟨g2, 28, tokCells clm0 (zer 32)⟩, ⟨g4, 64, nmC nm ok⟩, ⟨g5, 28, tokCells X G⟩] W] 0 V5.drew := HS5.out.drew
      clear HS5
      refine wp_region_phs [is (.pointer (some ⟨g5, 5, none⟩)), is (.slice (some ⟨g5, 5, none⟩) 32 32), is (.slice (some ⟨g, o, none⟩) 46 cc), is (.slice (some ⟨g, o + 14, none⟩) 32 (cc - 14)), anyV] [true, true, true, true, true] [(fun W => St w noF [⟨g2, 28, tokCells clm0 (zer 32)⟩, ⟨g4, 64, nmC nm ok⟩, ⟨g5, 28, tokCells X (zer 32)⟩] W), (fun W => St w noF [⟨g2, 28, tokCells clm0 (zer 32)⟩, ⟨g4, 64, nmC nm ok⟩, ⟨g5, 28, tokCells X G⟩] W)] [false, false, false, false, true] [some 0, some 0, some 0, some 0, some 0] [some 44, some 45, some 46, some 47, some 48] 5 1 (fun _ => true) rfl rfl (by kernel_rfl) (by kernel_rfl) (by kernel_rfl) (by kernel_rfl) ?_ ?_ ?_ ?_ ?_ ?_
      · repeat first | exact wok_nil | refine wok_cons (by first | exact fun _ _ h k => h.same k) ?_
      · repeat first | exact vok_nil | refine vok_rig (by first | exact fun _ _ _ h => h) ?_ | refine vok_soft (by first | exact fun _ _ _ h _ => h) ?_
      · exact hF0
      · repeat first | exact all_end (by decide) | refine all_cons (by first | exact rfl | exact ⟨rfl, fun _ _ h => Or.inl h⟩ | exact ⟨rfl, fun _ _ h => Or.inr ⟨h, rfl⟩⟩) ?_
      · refine allp_mild 0 rfl rfl rfl (fun a x W hout hin hP => ?_) ?_
        · have e5 : a.tmps[5]? = some (.pointer (some ⟨g5, 0, none⟩)) := (hout 5 (by kernel_rfl)).trans rfl
          clear hin hout
          intro K Q hK
          go_simp
          exact hK _ _ ⟨Same.refl _, rfl⟩
        refine allp_mild 0 rfl rfl rfl (fun a x W hout hin hP => ?_) ?_
        · have e44 := hin.is 0 44 (by kernel_rfl) (by decide) (by kernel_rfl) (by kernel_rfl) _ rfl
          clear hin hout
          intro K Q hK
          go_simp
          exact hK _ _ ⟨Same.refl _, rfl⟩
        refine allp_mild 0 rfl rfl rfl (fun a x W hout hin hP => ?_) ?_
        · have e0 : a.tmps[0]? = some (.slice (some ⟨g, o, none⟩) 46 cc) := (hout 0 (by kernel_rfl)).trans rfl
          exact does_move rfl e0 ⟨Same.refl _, rfl⟩
        refine allp_mild 0 rfl rfl rfl (fun a x W hout hin hP => ?_) ?_
        · have e46 := hin.is 2 46 (by kernel_rfl) (by decide) (by kernel_rfl) (by kernel_rfl) _ rfl
          clear hin hout
          intro K Q hK
          go_simp
          exact hK _ _ ⟨Same.refl _, rfl⟩
        refine allp_wild 0 rfl rfl rfl (fun a x W hout hin hP => ?_) ?_
        · have e45 := hin.is 1 45 (by kernel_rfl) (by decide) (by kernel_rfl) (by kernel_rfl) _ rfl
          have e47 := hin.is 3 47 (by kernel_rfl) (by decide) (by kernel_rfl) (by kernel_rfl) _ rfl
          clear hin hout
          intro K Q hK
          have sq : Slice W (.slice (some ⟨g, o + 14, none⟩) 32 (cc - 14)) G := HGE.out ▸ ((HBA.out.call hP.below).drop 14).slice (by rw [List.length_drop, HQL.out]) (by have := HCC.out; omega)
          refine wp_copy_any (.tmp 45) (.tmp 47) rfl g5 5 32 32 (eval_of_get e45) _ (eval_of_get e47) G sq 28 _ (hP.row 2 rfl) (by show 5 + G.length ≤ (tokCells X (zer 32)).size; rw [HGL.out, tok_size _ _ (length_zer 32)]; decide) (by rw [HGL.out]; exact Nat.le_refl _) ?_
          intro W' r5 hg
          rw [spl_tag X (zer 32) G (by rw [HGL.out]; exact length_zer 32)] at r5
          exact hK _ _ ⟨hP.upd 2 rfl r5 hg, trivial⟩
        exact all_end (by decide)
      · intro x V hP hV
        have HS : St w noF [⟨g2, 28, tokCells clm0 (zer 32)⟩, ⟨g4, 64, nmC nm ok⟩, ⟨g5, 28, tokCells X G⟩] V := hP
        clear hV hP
        simp only [putL, Act.put, List.setIfInBounds_toArray, List.set_cons_succ, List.set_cons_zero]
        simp only [Nat.zero_add, Nat.reduceAdd]
        refine wpAnyH_done (by kernel_rfl) ?_ _
        go_wp2_with (first | ((with_reducible refine wpList_plain ?_ ?_); exact rfl; intro KK hKK; refine wp_st_load HS 2 0 28 (.tmp 5) rfl rfl rfl (tokCells X G) (slab_whole _) _ Tryd.underlying28 rfl (by rw [tok_size _ _ HGL.out]; exact size_tok) (hKK _ _ ?_); clear hKK KK))
        refine (HEN.out _).mono ?_
        rintro e V7 ⟨vw, rfl, ho, hb⟩
        have HSx := HS.same hb
        clear HS hb HEN
        have HS := HSx
        clear HSx
        have cv1 := conv_bytes (own_slice ho) 9 Tryd.underlying9
        have cv2 := conv_bytes ((HBA.out.call HS.below).slice HQL.out HCC.out) 9 Tryd.underlying9
        have hq := str_beq P q
        rw [HPQ.out] at hq
        clear ho
        go_wp2_with (first | ((with_reducible refine wpList_plain ?_ ?_); exact rfl; intro KK hKK; refine wp_st_store HS 0 0 28 (.tmp 2) (.tmp 63) rfl rfl rfl (.agg #[.int .i64 0, .string ⟨#[]⟩, .int .i64 0, .int .u32 0, .int .u32 0, .int .u8 0, .int .u8 0, .int .u8 0, .int .u8 0, .int .u8 0, .int .u8 0, .int .u8 0, .int .u8 0, .int .u8 0, .int .u8 0, .int .u8 0, .int .u8 0, .int .u8 0, .int .u8 0, .int .u8 0, .int .u8 0, .int .u8 0, .int .u8 0, .int .u8 0, .int .u8 0, .int .u8 0, .int .u8 0, .int .u8 0, .int .u8 0, .int .u8 0, .int .u8 0, .int .u8 0, .int .u8 0, .int .u8 0, .int .u8 0, .int .u8 0, .int .u8 0]) rfl (by exact size_tok) (by rw [tok_size _ _ (length_zer 32)]; exact Nat.le_refl 37) (by exact zeros_one) (tokCells clm0 (zer 32)) (spl_agg _ _ _ zeros_tok (by rw [tok_size _ _ (length_zer 32)]; rfl)) (fun W71 HSx => hKK _ _ ?_); clear hKK KK HS; have HS : St w noF [⟨g2, 28, tokCells clm0 (zer 32)⟩, ⟨g4, 64, nmC nm ok⟩, ⟨g5, 28, tokCells X G⟩] W71 := HSx; clear HSx))
        exact bodyPost_ret (v := .tuple #[.agg (tokCells clm0 (zer 32)), .int .i64 11]) (results_cell_tmp Tryd.results25 _ _ g2 28 (tokCells clm0 (zer 32)) (0, 0) _ rfl (HS.row 0 rfl) Tryd.underlying28 rfl (by first | exact size_tok | (rw [tok_size _ _ HGL.out]; exact size_tok))) rfl ⟨rfl, HS.below⟩
set_option maxRecDepth 20000 in
set_option maxHeartbeats 1600000 in
theorem rtokdec_good (g o cc : Nat) (q : List (BitVec 8)) (w : World) (hB : BAt w g o q) (hl : q.length = 46) (hc : 46 ≤ cc) (hm : mayC (clmQ q) = true) (hpq : decide (clmB (clmQ q) ++ q.drop 14 = q) = true) :
    Calls Tryd.prog 25 #[.slice (some ⟨g, o, none⟩) 46 cc] w fun e w' => e = .returned (.tuple #[.agg (tokCells (clmQ q) (q.drop 14)), .int .i64 0]) ∧ Below w.heap.size w w' := by
  have HBA := Lib.hid hB
  have HQL := Lib.hid hl
  have HCC := Lib.hid hc
  have k6 : ¬ cc = 6 := by omega
  have k10 : ¬ cc = 10 := by omega
  have k14 : ¬ cc = 14 := by omega
  have l6 : 6 ≤ cc := by omega
  have l10 : 10 ≤ cc := by omega
  have l14 : 14 ≤ cc := by omega
  have l46 : 46 ≤ cc := by omega
  have i10 : (10 : Int) ≤ (cc : Int) := by omega
  have i14 : (14 : Int) ≤ (cc : Int) := by omega
  have i46 : (46 : Int) ≤ (cc : Int) := by omega
  obtain ⟨b4, hb4⟩ : ∃ b4, (q.drop 1).take 4 = b4 := ⟨_, rfl⟩
  have HB4 : Hid (b4.length = 4) := Lib.hid (by rw [← hb4, List.length_take, List.length_drop, hl]; rfl)
  obtain ⟨x0, hx0⟩ : ∃ x, q.getD 0 0#8 = x := ⟨_, rfl⟩
  obtain ⟨x1, hx1⟩ : ∃ x, q.getD 1 0#8 = x := ⟨_, rfl⟩
  obtain ⟨x2, hx2⟩ : ∃ x, q.getD 2 0#8 = x := ⟨_, rfl⟩
  obtain ⟨x3, hx3⟩ : ∃ x, q.getD 3 0#8 = x := ⟨_, rfl⟩
  obtain ⟨x4, hx4⟩ : ∃ x, q.getD 4 0#8 = x := ⟨_, rfl⟩
  obtain ⟨x5, hx5⟩ : ∃ x, q.getD 5 0#8 = x := ⟨_, rfl⟩
  have HB4E : Hid ([x1, x2, x3, x4] = b4) := Lib.hid (by rw [← hb4, piece4 q 1 (by rw [hl]; decide), ← hx1, ← hx2, ← hx3, ← hx4])
  obtain ⟨u, hu⟩ : ∃ u, lv 0 (q.drop 6) = u := ⟨_, rfl⟩
  obtain ⟨v, hv⟩ : ∃ v, lv 0 (q.drop 10) = v := ⟨_, rfl⟩
  have HX0 := Lib.hid hx0
  have HX1 := Lib.hid hx1
  have HX2 := Lib.hid hx2
  have HX3 := Lib.hid hx3
  have HX4 := Lib.hid hx4
  have HX5 := Lib.hid hx5
  have HU : Hid (num ((q.drop 6).take 4) = u) := Lib.hid (by rw [← hu, lv_num _ 0 (by rw [List.length_drop, hl]; decide), List.drop_zero])
  have HV : Hid (num ((q.drop 10).take 4) = v) := Lib.hid (by rw [← hv, lv_num _ 0 (by rw [List.length_drop, hl]; decide), List.drop_zero])
  have HCUT := Lib.hid (fun W => refcutn_any b4 W HB4.out)
  obtain ⟨nm, hnm⟩ : ∃ nm, (cutN b4).1 = nm := ⟨_, rfl⟩
  obtain ⟨ok, hok⟩ : ∃ ok, (cutN b4).2 = ok := ⟨_, rfl⟩
  rw [hnm, hok] at HCUT
  have hnl : nm.length ≤ maxLen := by rw [← hnm]; have := cut_len HB4.out; unfold maxLen; omega
  obtain ⟨X, hX⟩ : ∃ X, clmQ q = X := ⟨_, rfl⟩
  obtain ⟨G, hG⟩ : ∃ G, q.drop 14 = G := ⟨_, rfl⟩
  have HCQ : Hid (X = ⟨bd x0, nm, bd x5, u, v⟩) := Lib.hid (by rw [← hX, ← hx0, ← hx5, ← hu, ← hv, ← hnm, ← hb4]; rfl)
  have HGL : Hid (G.length = 32) := Lib.hid (by rw [← hG, List.length_drop, hl])
  have HGE := Lib.hid hG
  have hxn : X.n.length ≤ maxLen := by rw [HCQ.out]; exact hnl
  rw [hX] at hm
  rw [hX, hG]
  have HEN := Lib.hid (fun W => rtokenc_good X G W HGL.out hxn hm)
  obtain ⟨P, hP⟩ : ∃ P, clmB X ++ G = P := ⟨_, rfl⟩
  rw [hP] at HEN
  have HPQ : Hid (decide (P = q) = true) := Lib.hid (by rw [← hP, ← hX, ← hG, hpq])
  clear hpq hP
  clear hB hl hc hb4 hx0 hx1 hx2 hx3 hx4 hx5 hu hv hnm hok hX hG hm hxn hnl
  have HS := St.nil w noF
  go_enter Tryd.func25, Tryd.ntmps25
  go_upto_region 1 with (first | ((with_reducible refine wpList_plain ?_ ?_); exact rfl; intro KK hKK; refine wp_st_alloc HS 28 (tokCells clm0 (zer 32)) rfl (.agg (tokCells clm0 (zer 32))) (by exact zero_tok) (rfl) (fun g2 W1 HSx => hKK _ _ ?_); clear hKK KK HS; have HS : St w noF [⟨g2, 28, tokCells clm0 (zer 32)⟩] W1 := HSx; clear HSx))
  have HS := HS
  obtain ⟨B0, hB0⟩ : ∃ B0, W1.heap.size = B0 := ⟨_, rfl⟩
  have HB0 : Hid (w.heap.size ≤ B0) := Lib.hid (by rw [← hB0]; exact HS.below.size)
  have HLT : Hid (∀ b ∈ ([⟨g2, 28, tokCells clm0 (zer 32)⟩] : List Blk), b.g < B0) := Lib.hid (by rw [← hB0]; exact fun b hb => HS.lt hb)
  have HBB : Hid (B0 ≤ W1.heap.size) := Lib.hid (Nat.le_of_eq hB0.symm)
  clear hB0
  go_upto_region 3 with fail
  have hF0 : Wl [fun W => St w noF [⟨g2, 28, tokCells clm0 (zer 32)⟩] W ∧ B0 ≤ W.heap.size, fun W => St w noF [⟨g2, 28, tokCells clm0 (zer 32)⟩] W ∧ B0 ≤ W.heap.size] 0 W1.drew := ⟨HS.drew, HBB.out⟩
  clear HS HBB
  refine wp_region_phas [is (.slice (some ⟨g, o, none⟩) 46 cc), is (.pointer (some ⟨g, o + 1, none⟩)), is (.int .u8 (bd x1)), is (.slice (some ⟨g, o, none⟩) 46 cc), is (.pointer (some ⟨g, o + 2, none⟩)), is (.int .u8 (bd x2)), is (.slice (some ⟨g, o, none⟩) 46 cc), is (.pointer (some ⟨g, o + 3, none⟩)), is (.int .u8 (bd x3)), is (.slice (some ⟨g, o, none⟩) 46 cc), is (.pointer (some ⟨g, o + 4, none⟩)), is (.int .u8 (bd x4)), is (.agg (bs b4)), is (.agg (nmC nm ok)), (fun v W => ∃ k, v = Value.pointer (some ⟨k, 0, none⟩) ∧ Row W k 64 (nmC [] false) ∧ B0 ≤ k), (fun v W => ∃ k, v = Value.pointer (some ⟨k, 0, none⟩) ∧ Row W k 64 (nmC nm ok) ∧ B0 ≤ k)] [true, true, true, true, true, true, true, true, true, true, true, true, true, true, false, false] [(fun W => St w noF [⟨g2, 28, tokCells clm0 (zer 32)⟩] W ∧ B0 ≤ W.heap.size), (fun W => St w noF [⟨g2, 28, tokCells clm0 (zer 32)⟩] W ∧ B0 ≤ W.heap.size)] [false, false, false, false, false, false, false, false, false, false, false, false, false, false, false, true] [some 0, some 0, some 0, some 0, some 0, some 0, some 0, some 0, some 0, some 0, some 0, some 0, some 0, some 0, some 0, some 0] [none, none, none, none, none, none, none, none, none, none, none, none, none, none, none, some 14] [some 12, some 13, some 14, some 15, some 16, some 17, some 18, some 19, some 20, some 21, some 22, some 23, some 24, some 25, some 4, none] 16 1 (fun _ => true) rfl rfl (by kernel_rfl) (by kernel_rfl) (by kernel_rfl) (by kernel_rfl) (by kernel_rfl) ?_ ?_ ?_ ?_ ?_ ?_
  · repeat first | exact wok_nil | refine wok_cons (by first | exact fun _ _ h k => ⟨h.1.same k, Nat.le_trans h.2 k.size⟩) ?_
  · repeat first | exact vok_nil | refine vok_rig (by first | exact fun _ _ _ h => h) ?_ | refine vok_soft (by first | exact fun _ _ _ h _ => h | exact fun _ _ _ h k => ⟨h.choose, h.choose_spec.1, h.choose_spec.2.1.call k, h.choose_spec.2.2⟩) ?_
  · exact hF0
  · repeat first | exact all_end (by decide) | refine all_cons (by first | exact rfl | exact ⟨rfl, fun _ _ h => Or.inl h⟩ | exact ⟨rfl, fun _ _ h => Or.inr ⟨h, rfl⟩⟩) ?_
  · refine alla_old rfl (step_mild 0 rfl rfl rfl (fun a x W hout hin hP => ?_)) ?_
    · have e0 : a.tmps[0]? = some (.slice (some ⟨g, o, none⟩) 46 cc) := (hout 0 (by kernel_rfl)).trans rfl
      exact does_move rfl e0 ⟨Same.refl _, rfl⟩
    refine alla_old rfl (step_mild 0 rfl rfl rfl (fun a x W hout hin hP => ?_)) ?_
    · have e12 := hin.is 0 12 (by kernel_rfl) (by decide) (by kernel_rfl) (by kernel_rfl) _ rfl
      clear hin hout
      intro K Q hK
      go_simp
      exact hK _ _ ⟨Same.refl _, rfl⟩
    refine alla_old rfl (step_mild 0 rfl rfl rfl (fun a x W hout hin hP => ?_)) ?_
    · have e13 := hin.is 1 13 (by kernel_rfl) (by decide) (by kernel_rfl) (by kernel_rfl) _ rfl
      have hc : W.cell? ⟨g, o + 1, none⟩ = some (.int .u8 (bd x1)) := HX1.out ▸ (HBA.out.call (hP.1).below).get 1 (by rw [HQL.out]; decide)
      clear hP
      clear hin hout
      intro K Q hK
      go_simp
      exact hK _ _ ⟨Same.refl _, rfl⟩
    refine alla_old rfl (step_mild 0 rfl rfl rfl (fun a x W hout hin hP => ?_)) ?_
    · have e0 : a.tmps[0]? = some (.slice (some ⟨g, o, none⟩) 46 cc) := (hout 0 (by kernel_rfl)).trans rfl
      exact does_move rfl e0 ⟨Same.refl _, rfl⟩
    refine alla_old rfl (step_mild 0 rfl rfl rfl (fun a x W hout hin hP => ?_)) ?_
    · have e15 := hin.is 3 15 (by kernel_rfl) (by decide) (by kernel_rfl) (by kernel_rfl) _ rfl
      clear hin hout
      intro K Q hK
      go_simp
      exact hK _ _ ⟨Same.refl _, rfl⟩
    refine alla_old rfl (step_mild 0 rfl rfl rfl (fun a x W hout hin hP => ?_)) ?_
    · have e16 := hin.is 4 16 (by kernel_rfl) (by decide) (by kernel_rfl) (by kernel_rfl) _ rfl
      have hc : W.cell? ⟨g, o + 2, none⟩ = some (.int .u8 (bd x2)) := HX2.out ▸ (HBA.out.call (hP.1).below).get 2 (by rw [HQL.out]; decide)
      clear hP
      clear hin hout
      intro K Q hK
      go_simp
      exact hK _ _ ⟨Same.refl _, rfl⟩
    refine alla_old rfl (step_mild 0 rfl rfl rfl (fun a x W hout hin hP => ?_)) ?_
    · have e0 : a.tmps[0]? = some (.slice (some ⟨g, o, none⟩) 46 cc) := (hout 0 (by kernel_rfl)).trans rfl
      exact does_move rfl e0 ⟨Same.refl _, rfl⟩
    refine alla_old rfl (step_mild 0 rfl rfl rfl (fun a x W hout hin hP => ?_)) ?_
    · have e18 := hin.is 6 18 (by kernel_rfl) (by decide) (by kernel_rfl) (by kernel_rfl) _ rfl
      clear hin hout
      intro K Q hK
      go_simp
      exact hK _ _ ⟨Same.refl _, rfl⟩
    refine alla_old rfl (step_mild 0 rfl rfl rfl (fun a x W hout hin hP => ?_)) ?_
    · have e19 := hin.is 7 19 (by kernel_rfl) (by decide) (by kernel_rfl) (by kernel_rfl) _ rfl
      have hc : W.cell? ⟨g, o + 3, none⟩ = some (.int .u8 (bd x3)) := HX3.out ▸ (HBA.out.call (hP.1).below).get 3 (by rw [HQL.out]; decide)
      clear hP
      clear hin hout
      intro K Q hK
      go_simp
      exact hK _ _ ⟨Same.refl _, rfl⟩
    refine alla_old rfl (step_mild 0 rfl rfl rfl (fun a x W hout hin hP => ?_)) ?_
    · have e0 : a.tmps[0]? = some (.slice (some ⟨g, o, none⟩) 46 cc) := (hout 0 (by kernel_rfl)).trans rfl
      exact does_move rfl e0 ⟨Same.refl _, rfl⟩
    refine alla_old rfl (step_mild 0 rfl rfl rfl (fun a x W hout hin hP => ?_)) ?_
    · have e21 := hin.is 9 21 (by kernel_rfl) (by decide) (by kernel_rfl) (by kernel_rfl) _ rfl
      clear hin hout
      intro K Q hK
      go_simp
      exact hK _ _ ⟨Same.refl _, rfl⟩
    refine alla_old rfl (step_mild 0 rfl rfl rfl (fun a x W hout hin hP => ?_)) ?_
    · have e22 := hin.is 10 22 (by kernel_rfl) (by decide) (by kernel_rfl) (by kernel_rfl) _ rfl
      have hc : W.cell? ⟨g, o + 4, none⟩ = some (.int .u8 (bd x4)) := HX4.out ▸ (HBA.out.call (hP.1).below).get 4 (by rw [HQL.out]; decide)
      clear hP
      clear hin hout
      intro K Q hK
      go_simp
      exact hK _ _ ⟨Same.refl _, rfl⟩
    refine alla_old rfl (step_mild 0 rfl rfl rfl (fun a x W hout hin hP => ?_)) ?_
    · have e14 := hin.is 2 14 (by kernel_rfl) (by decide) (by kernel_rfl) (by kernel_rfl) _ rfl
      have e17 := hin.is 5 17 (by kernel_rfl) (by decide) (by kernel_rfl) (by kernel_rfl) _ rfl
      have e20 := hin.is 8 20 (by kernel_rfl) (by decide) (by kernel_rfl) (by kernel_rfl) _ rfl
      have e23 := hin.is 11 23 (by kernel_rfl) (by decide) (by kernel_rfl) (by kernel_rfl) _ rfl
      rw [← HB4E.out]
      clear hP
      clear hin hout
      intro K Q hK
      go_simp
      exact hK _ _ ⟨Same.refl _, rfl⟩
    refine alla_old rfl (step_mild 0 rfl rfl rfl (fun a x W hout hin hP => ?_)) ?_
    · have e24 := hin.is 12 24 (by kernel_rfl) (by decide) (by kernel_rfl) (by kernel_rfl) _ rfl
      have C := HCUT.out W
      clear hP
      clear hin hout
      intro K Q hK
      go_simp
      refine C.mono ?_
      rintro e W' ⟨rfl, hb⟩
      exact hK _ _ ⟨hb, rfl⟩
    refine alla_old rfl (step_mild 0 rfl rfl rfl (fun a x W hout hin hP => ?_)) ?_
    · have hbse := hP.2
      clear hP hin hout
      intro K Q hK
      refine wp_new_row 64 (nmC [] false) rfl zero_nm ?_
      exact hK _ _ ⟨Same.alloc _ _, _, rfl, Row.fresh _ _ _, hbse⟩
    refine alla_wild 0 rfl rfl rfl (fun a x W hout hin hP => ?_) ?_
    · obtain ⟨hw14, hx14⟩ := hin 14 (by kernel_rfl) (by decide)
      have hw14 := hw14 (.inr ⟨rfl, by kernel_rfl⟩)
      have hx14 := hx14 4 (by kernel_rfl)
      have e25 := hin.is 13 25 (by kernel_rfl) (by decide) (by kernel_rfl) (by kernel_rfl) _ rfl
      obtain ⟨g6, hg6, r6, hb6⟩ := hw14
      rw [hg6] at hx14
      clear hin hout
      intro K Q hK
      refine wp_store_row 64 (.tmp 4) (.tmp 25) rfl g6 (nmC nm ok) (eval_of_get hx14) (eval_of_get e25) 64 (nmC [] false) r6 (by exact size_nm) rfl (one_nm _ _) ?_
      have hgr := grown_setRow W g6 (nmC nm ok)
      exact hK (x 14) _ ⟨⟨hP.1.far hgr (Nat.le_trans HB0.out hb6) (fun b hb => by have := HLT.out b hb; omega), Nat.le_trans hP.2 hgr.size⟩, ⟨g6, hg6, r6.setRow _, hb6⟩, al_one rfl rfl⟩
    exact all_end (by decide)
  · intro x W hP hV hal
    obtain ⟨g4, h8, r4, hb4⟩ := hV 15 (by decide) (.inr (by kernel_rfl))
    have h7 : x 14 = .pointer (some ⟨g4, 0, none⟩) := (hal 15 (by decide) 14 rfl).symm.trans h8
    have HS : St w noF [⟨g2, 28, tokCells clm0 (zer 32)⟩, ⟨g4, 64, nmC nm ok⟩] W := hP.1.join r4 (Nat.le_trans HB0.out hb4) (fun b hb => by have := HLT.out b hb; omega)
    clear hV hP hal h8 r4 hb4
    simp only [putL, Act.put, List.setIfInBounds_toArray, List.set_cons_succ, List.set_cons_zero, h7]
    simp only [Nat.zero_add, Nat.reduceAdd]
    refine wpAnyH_done (by kernel_rfl) ?_ _
    clear h7
    go_upto_region 5 with (first | ((with_reducible refine wpList_plain ?_ ?_); exact rfl; intro KK hKK; refine wp_st_alloc HS 28 (tokCells clm0 (zer 32)) rfl (.agg (tokCells clm0 (zer 32))) (by exact zero_tok) (rfl) (fun g5 W21 HSx => hKK _ _ ?_); clear hKK KK HS; have HS : St w noF [⟨g2, 28, tokCells clm0 (zer 32)⟩, ⟨g4, 64, nmC nm ok⟩, ⟨g5, 28, tokCells clm0 (zer 32)⟩] W21 := HSx; clear HSx))
    have hF0 : Wl [fun W => St w noF [⟨g2, 28, tokCells clm0 (zer 32)⟩, ⟨g4, 64, nmC nm ok⟩, ⟨g5, 28, tokCells clm0 (zer 32)⟩] W, fun W => St w noF [⟨g2, 28, tokCells clm0 (zer 32)⟩, ⟨g4, 64, nmC nm ok⟩, ⟨g5, 28, tokCells X (zer 32)⟩] W] 0 W21.drew := HS.drew
    clear HS
    refine wp_region_phs [is (.slice (some ⟨g, o, none⟩) 46 cc), is (.pointer (some ⟨g, o, none⟩)), is (.int .u8 (bd x0)), is (.int .i64 (bd x0)), is (.pointer (some ⟨g4, 0, none⟩)), is (.string (strB nm)), is (.slice (some ⟨g, o, none⟩) 46 cc), is (.pointer (some ⟨g, o + 5, none⟩)), is (.int .u8 (bd x5)), is (.int .i64 (bd x5)), is (.slice (some ⟨g, o, none⟩) 46 cc), is (.slice (some ⟨g, o + 6, none⟩) 4 (cc - 6)), is (.int .u32 (wd u)), is (.slice (some ⟨g, o, none⟩) 46 cc), is (.slice (some ⟨g, o + 10, none⟩) 4 (cc - 10)), is (.int .u32 (wd v)), is (.agg (clmCells X)), is (.pointer (some ⟨g5, 0, none⟩)), anyV] [true, true, true, true, true, true, true, true, true, true, true, true, true, true, true, true, true, true, true] [(fun W => St w noF [⟨g2, 28, tokCells clm0 (zer 32)⟩, ⟨g4, 64, nmC nm ok⟩, ⟨g5, 28, tokCells clm0 (zer 32)⟩] W), (fun W => St w noF [⟨g2, 28, tokCells clm0 (zer 32)⟩, ⟨g4, 64, nmC nm ok⟩, ⟨g5, 28, tokCells X (zer 32)⟩] W)] [false, false, false, false, false, false, false, false, false, false, false, false, false, false, false, false, false, false, true] [some 0, some 0, some 0, some 0, some 0, some 0, some 0, some 0, some 0, some 0, some 0, some 0, some 0, some 0, some 0, some 0, some 0, some 0, some 0] [some 26, some 27, some 28, some 29, some 30, some 31, some 32, some 33, some 34, some 35, some 36, some 37, some 38, some 39, some 40, some 41, some 42, some 43, none] 19 1 (fun _ => true) rfl rfl (by kernel_rfl) (by kernel_rfl) (by kernel_rfl) (by kernel_rfl) ?_ ?_ ?_ ?_ ?_ ?_
    · repeat first | exact wok_nil | refine wok_cons (by first | exact fun _ _ h k => h.same k) ?_
    · repeat first | exact vok_nil | refine vok_rig (by first | exact fun _ _ _ h => h) ?_ | refine vok_soft (by first | exact fun _ _ _ h _ => h) ?_
    · exact hF0
    · repeat first | exact all_end (by decide) | refine all_cons (by first | exact rfl | exact ⟨rfl, fun _ _ h => Or.inl h⟩ | exact ⟨rfl, fun _ _ h => Or.inr ⟨h, rfl⟩⟩) ?_
    · refine allp_mild 0 rfl rfl rfl (fun a x W hout hin hP => ?_) ?_
      · have e0 : a.tmps[0]? = some (.slice (some ⟨g, o, none⟩) 46 cc) := (hout 0 (by kernel_rfl)).trans rfl
        exact does_move rfl e0 ⟨Same.refl _, rfl⟩
      refine allp_mild 0 rfl rfl rfl (fun a x W hout hin hP => ?_) ?_
      · have e26 := hin.is 0 26 (by kernel_rfl) (by decide) (by kernel_rfl) (by kernel_rfl) _ rfl
        clear hin hout
        intro K Q hK
        go_simp
        exact hK _ _ ⟨Same.refl _, rfl⟩
      refine allp_mild 0 rfl rfl rfl (fun a x W hout hin hP => ?_) ?_
      · have e27 := hin.is 1 27 (by kernel_rfl) (by decide) (by kernel_rfl) (by kernel_rfl) _ rfl
        have hc : W.cell? ⟨g, o, none⟩ = some (.int .u8 (bd x0)) := HX0.out ▸ (HBA.out.call (hP).below).get 0 (by rw [HQL.out]; decide)
        clear hP
        clear hin hout
        intro K Q hK
        go_simp
        exact hK _ _ ⟨Same.refl _, rfl⟩
      refine allp_mild 0 rfl rfl rfl (fun a x W hout hin hP => ?_) ?_
      · have e28 := hin.is 2 28 (by kernel_rfl) (by decide) (by kernel_rfl) (by kernel_rfl) _ rfl
        have hw := i64_bd x0
        clear hin hout
        intro K Q hK
        go_simp
        exact hK _ _ ⟨Same.refl _, rfl⟩
      refine allp_mild 0 rfl rfl rfl (fun a x W hout hin hP => ?_) ?_
      · have e4 : a.tmps[4]? = some (.pointer (some ⟨g4, 0, none⟩)) := (hout 4 (by kernel_rfl)).trans rfl
        clear hin hout
        intro K Q hK
        go_simp
        exact hK _ _ ⟨Same.refl _, rfl⟩
      refine allp_mild 0 rfl rfl rfl (fun a x W hout hin hP => ?_) ?_
      · have e30 := hin.is 4 30 (by kernel_rfl) (by decide) (by kernel_rfl) (by kernel_rfl) _ rfl
        have hc : W.cell? ⟨g4, 0, none⟩ = some (.string (strB nm)) := (hP.row 1 rfl).get rfl
        clear hP
        clear hin hout
        intro K Q hK
        go_simp
        exact hK _ _ ⟨Same.refl _, rfl⟩
      refine allp_mild 0 rfl rfl rfl (fun a x W hout hin hP => ?_) ?_
      · have e0 : a.tmps[0]? = some (.slice (some ⟨g, o, none⟩) 46 cc) := (hout 0 (by kernel_rfl)).trans rfl
        exact does_move rfl e0 ⟨Same.refl _, rfl⟩
      refine allp_mild 0 rfl rfl rfl (fun a x W hout hin hP => ?_) ?_
      · have e32 := hin.is 6 32 (by kernel_rfl) (by decide) (by kernel_rfl) (by kernel_rfl) _ rfl
        clear hin hout
        intro K Q hK
        go_simp
        exact hK _ _ ⟨Same.refl _, rfl⟩
      refine allp_mild 0 rfl rfl rfl (fun a x W hout hin hP => ?_) ?_
      · have e33 := hin.is 7 33 (by kernel_rfl) (by decide) (by kernel_rfl) (by kernel_rfl) _ rfl
        have hc : W.cell? ⟨g, o + 5, none⟩ = some (.int .u8 (bd x5)) := HX5.out ▸ (HBA.out.call (hP).below).get 5 (by rw [HQL.out]; decide)
        clear hP
        clear hin hout
        intro K Q hK
        go_simp
        exact hK _ _ ⟨Same.refl _, rfl⟩
      refine allp_mild 0 rfl rfl rfl (fun a x W hout hin hP => ?_) ?_
      · have e34 := hin.is 8 34 (by kernel_rfl) (by decide) (by kernel_rfl) (by kernel_rfl) _ rfl
        have hw := i64_bd x5
        clear hin hout
        intro K Q hK
        go_simp
        exact hK _ _ ⟨Same.refl _, rfl⟩
      refine allp_mild 0 rfl rfl rfl (fun a x W hout hin hP => ?_) ?_
      · have e0 : a.tmps[0]? = some (.slice (some ⟨g, o, none⟩) 46 cc) := (hout 0 (by kernel_rfl)).trans rfl
        exact does_move rfl e0 ⟨Same.refl _, rfl⟩
      refine allp_mild 0 rfl rfl rfl (fun a x W hout hin hP => ?_) ?_
      · have e36 := hin.is 10 36 (by kernel_rfl) (by decide) (by kernel_rfl) (by kernel_rfl) _ rfl
        clear hin hout
        intro K Q hK
        go_simp
        exact hK _ _ ⟨Same.refl _, rfl⟩
      refine allp_mild 0 rfl rfl rfl (fun a x W hout hin hP => ?_) ?_
      · have e37 := hin.is 11 37 (by kernel_rfl) (by decide) (by kernel_rfl) (by kernel_rfl) _ rfl
        have hS : Slice W (.slice (some ⟨g, o + 6, none⟩) 4 (cc - 6)) ((q.drop 6).take 4) := (((HBA.out.call hP.below).drop 6).take 4).slice (by rw [List.length_take, List.length_drop, HQL.out]; rfl) (by have := HCC.out; omega)
        have C := refnum_any _ _ W hS (by rw [List.length_take]; omega)
        rw [HU.out] at C
        clear hP hS
        clear hin hout
        intro K Q hK
        go_simp
        refine C.mono ?_
        rintro e W' ⟨rfl, rfl⟩
        exact hK _ _ ⟨Same.refl _, rfl⟩
      refine allp_mild 0 rfl rfl rfl (fun a x W hout hin hP => ?_) ?_
      · have e0 : a.tmps[0]? = some (.slice (some ⟨g, o, none⟩) 46 cc) := (hout 0 (by kernel_rfl)).trans rfl
        exact does_move rfl e0 ⟨Same.refl _, rfl⟩
      refine allp_mild 0 rfl rfl rfl (fun a x W hout hin hP => ?_) ?_
      · have e39 := hin.is 13 39 (by kernel_rfl) (by decide) (by kernel_rfl) (by kernel_rfl) _ rfl
        clear hin hout
        intro K Q hK
        go_simp
        exact hK _ _ ⟨Same.refl _, rfl⟩
      refine allp_mild 0 rfl rfl rfl (fun a x W hout hin hP => ?_) ?_
      · have e40 := hin.is 14 40 (by kernel_rfl) (by decide) (by kernel_rfl) (by kernel_rfl) _ rfl
        have hS : Slice W (.slice (some ⟨g, o + 10, none⟩) 4 (cc - 10)) ((q.drop 10).take 4) := (((HBA.out.call hP.below).drop 10).take 4).slice (by rw [List.length_take, List.length_drop, HQL.out]; rfl) (by have := HCC.out; omega)
        have C := refnum_any _ _ W hS (by rw [List.length_take]; omega)
        rw [HV.out] at C
        clear hP hS
        clear hin hout
        intro K Q hK
        go_simp
        refine C.mono ?_
        rintro e W' ⟨rfl, rfl⟩
        exact hK _ _ ⟨Same.refl _, rfl⟩
      refine allp_mild 0 rfl rfl rfl (fun a x W hout hin hP => ?_) ?_
      · have e29 := hin.is 3 29 (by kernel_rfl) (by decide) (by kernel_rfl) (by kernel_rfl) _ rfl
        have e31 := hin.is 5 31 (by kernel_rfl) (by decide) (by kernel_rfl) (by kernel_rfl) _ rfl
        have e35 := hin.is 9 35 (by kernel_rfl) (by decide) (by kernel_rfl) (by kernel_rfl) _ rfl
        have e38 := hin.is 12 38 (by kernel_rfl) (by decide) (by kernel_rfl) (by kernel_rfl) _ rfl
        have e41 := hin.is 15 41 (by kernel_rfl) (by decide) (by kernel_rfl) (by kernel_rfl) _ rfl
        clear hin hout
        intro K Q hK
        refine wp_buildStruct 24 _ rfl places_clm [.int .i64 (bd x0), .string (strB nm), .int .i64 (bd x5), .int .u32 (wd u), .int .u32 (wd v)] ?_ rfl rfl ?_
        · simp only [List.map_toArray, List.map_cons, List.map_nil, eval_of_get e29, eval_of_get e31, eval_of_get e35, eval_of_get e38, eval_of_get e41]; rfl
        · exact hK _ _ ⟨Same.refl _, by rw [HCQ.out]; rfl⟩
      refine allp_mild 0 rfl rfl rfl (fun a x W hout hin hP => ?_) ?_
      · have e5 : a.tmps[5]? = some (.pointer (some ⟨g5, 0, none⟩)) := (hout 5 (by kernel_rfl)).trans rfl
        clear hin hout
        intro K Q hK
        go_simp
        exact hK _ _ ⟨Same.refl _, rfl⟩
      refine allp_wild 0 rfl rfl rfl (fun a x W hout hin hP => ?_) ?_
      · have e43 := hin.is 17 43 (by kernel_rfl) (by decide) (by kernel_rfl) (by kernel_rfl) _ rfl
        have e42 := hin.is 16 42 (by kernel_rfl) (by decide) (by kernel_rfl) (by kernel_rfl) _ rfl
        clear hin hout
        intro K Q hK
        exact wp_st_store hP 2 0 24 (.tmp 43) (.tmp 42) rfl rfl (eval_of_get e43) (.agg (clmCells X)) (eval_of_get e42) (by exact size_clm) (by show 0 + 5 ≤ (tokCells clm0 (zer 32)).size; rw [tok_size _ _ (length_zer 32)]; decide) (by unfold clmCells; simp [Value.cells, Value.oneCell']) (tokCells X (zer 32)) (spl_clm clm0 X (zer 32)) (fun W' HSx => hK _ _ ⟨HSx, trivial⟩)
      exact all_end (by decide)
    · intro x V5 hP hV
      have HS5 := Lib.hid hP
      clear hV hP
      simp only [putL, Act.put, List.setIfInBounds_toArray, List.set_cons_succ, List.set_cons_zero]
      simp only [Nat.zero_add, Nat.reduceAdd]
      refine wpAnyH_done (by kernel_rfl) ?_ _
      go_upto_region 6 with fail
      have hF0 : Wl [fun W => St w noF [⟨g2, 28, tokCells clm0 (zer 32)⟩, ⟨g4, 64, nmC nm ok⟩, ⟨g5, 28, tokCells X (zer 32)⟩] W, fun W => St w noF [⟨g2, 28, tokCells clm0 (zer 32)⟩, ⟨g4, 64, nmC nm ok⟩, ⟨g5, 28, tokCells X G⟩] W] 0 V5.drew := HS5.out.drew
      clear HS5
      refine wp_region_phs [is (.pointer (some ⟨g5, 5, none⟩)), is (.slice (some ⟨g5, 5, none⟩) 32 32), is (.slice (some ⟨g, o, none⟩) 46 cc), is (.slice (some ⟨g, o + 14, none⟩) 32 (cc - 14)), anyV] [true, true, true, true, true] [(fun W => St w noF [⟨g2, 28, tokCells clm0 (zer 32)⟩, ⟨g4, 64, nmC nm ok⟩, ⟨g5, 28, tokCells X (zer 32)⟩] W), (fun W => St w noF [⟨g2, 28, tokCells clm0 (zer 32)⟩, ⟨g4, 64, nmC nm ok⟩, ⟨g5, 28, tokCells X G⟩] W)] [false, false, false, false, true] [some 0, some 0, some 0, some 0, some 0] [some 44, some 45, some 46, some 47, some 48] 5 1 (fun _ => true) rfl rfl (by kernel_rfl) (by kernel_rfl) (by kernel_rfl) (by kernel_rfl) ?_ ?_ ?_ ?_ ?_ ?_
      · repeat first | exact wok_nil | refine wok_cons (by first | exact fun _ _ h k => h.same k) ?_
      · repeat first | exact vok_nil | refine vok_rig (by first | exact fun _ _ _ h => h) ?_ | refine vok_soft (by first | exact fun _ _ _ h _ => h) ?_
      · exact hF0
      · repeat first | exact all_end (by decide) | refine all_cons (by first | exact rfl | exact ⟨rfl, fun _ _ h => Or.inl h⟩ | exact ⟨rfl, fun _ _ h => Or.inr ⟨h, rfl⟩⟩) ?_
      · refine allp_mild 0 rfl rfl rfl (fun a x W hout hin hP => ?_) ?_
        · have e5 : a.tmps[5]? = some (.pointer (some ⟨g5, 0, none⟩)) := (hout 5 (by kernel_rfl)).trans rfl
          clear hin hout
          intro K Q hK
          go_simp
          exact hK _ _ ⟨Same.refl _, rfl⟩
        refine allp_mild 0 rfl rfl rfl (fun a x W hout hin hP => ?_) ?_
        · have e44 := hin.is 0 44 (by kernel_rfl) (by decide) (by kernel_rfl) (by kernel_rfl) _ rfl
          clear hin hout
          intro K Q hK
          go_simp
          exact hK _ _ ⟨Same.refl _, rfl⟩
        refine allp_mild 0 rfl rfl rfl (fun a x W hout hin hP => ?_) ?_
        · have e0 : a.tmps[0]? = some (.slice (some ⟨g, o, none⟩) 46 cc) := (hout 0 (by kernel_rfl)).trans rfl
          exact does_move rfl e0 ⟨Same.refl _, rfl⟩
        refine allp_mild 0 rfl rfl rfl (fun a x W hout hin hP => ?_) ?_
        · have e46 := hin.is 2 46 (by kernel_rfl) (by decide) (by kernel_rfl) (by kernel_rfl) _ rfl
          clear hin hout
          intro K Q hK
          go_simp
          exact hK _ _ ⟨Same.refl _, rfl⟩
        refine allp_wild 0 rfl rfl rfl (fun a x W hout hin hP => ?_) ?_
        · have e45 := hin.is 1 45 (by kernel_rfl) (by decide) (by kernel_rfl) (by kernel_rfl) _ rfl
          have e47 := hin.is 3 47 (by kernel_rfl) (by decide) (by kernel_rfl) (by kernel_rfl) _ rfl
          clear hin hout
          intro K Q hK
          have sq : Slice W (.slice (some ⟨g, o + 14, none⟩) 32 (cc - 14)) G := HGE.out ▸ ((HBA.out.call hP.below).drop 14).slice (by rw [List.length_drop, HQL.out]) (by have := HCC.out; omega)
          refine wp_copy_any (.tmp 45) (.tmp 47) rfl g5 5 32 32 (eval_of_get e45) _ (eval_of_get e47) G sq 28 _ (hP.row 2 rfl) (by show 5 + G.length ≤ (tokCells X (zer 32)).size; rw [HGL.out, tok_size _ _ (length_zer 32)]; decide) (by rw [HGL.out]; exact Nat.le_refl _) ?_
          intro W' r5 hg
          rw [spl_tag X (zer 32) G (by rw [HGL.out]; exact length_zer 32)] at r5
          exact hK _ _ ⟨hP.upd 2 rfl r5 hg, trivial⟩
        exact all_end (by decide)
      · intro x V hP hV
        have HS : St w noF [⟨g2, 28, tokCells clm0 (zer 32)⟩, ⟨g4, 64, nmC nm ok⟩, ⟨g5, 28, tokCells X G⟩] V := hP
        clear hV hP
        simp only [putL, Act.put, List.setIfInBounds_toArray, List.set_cons_succ, List.set_cons_zero]
        simp only [Nat.zero_add, Nat.reduceAdd]
        refine wpAnyH_done (by kernel_rfl) ?_ _
        go_wp2_with (first | ((with_reducible refine wpList_plain ?_ ?_); exact rfl; intro KK hKK; refine wp_st_load HS 2 0 28 (.tmp 5) rfl rfl rfl (tokCells X G) (slab_whole _) _ Tryd.underlying28 rfl (by rw [tok_size _ _ HGL.out]; exact size_tok) (hKK _ _ ?_); clear hKK KK))
        refine (HEN.out _).mono ?_
        rintro e V7 ⟨vw, rfl, ho, hb⟩
        have HSx := HS.same hb
        clear HS hb HEN
        have HS := HSx
        clear HSx
        have cv1 := conv_bytes (own_slice ho) 9 Tryd.underlying9
        have cv2 := conv_bytes ((HBA.out.call HS.below).slice HQL.out HCC.out) 9 Tryd.underlying9
        have hq := str_beq P q
        rw [HPQ.out] at hq
        clear ho
        go_wp2_with (first | ((with_reducible refine wpList_plain ?_ ?_); exact rfl; intro KK hKK; refine wp_st_load HS 2 0 28 (.tmp 5) rfl rfl rfl (tokCells X G) (slab_whole _) _ Tryd.underlying28 rfl (by rw [tok_size _ _ HGL.out]; exact size_tok) (hKK _ _ ?_); clear hKK KK) | ((with_reducible refine wpList_plain ?_ ?_); exact rfl; intro KK hKK; refine wp_st_store HS 0 0 28 (.tmp 2) (.tmp 64) rfl rfl rfl (.agg (tokCells X G)) rfl (by rw [show Value.cells (.agg (tokCells X G)) = tokCells X G from rfl, tok_size _ _ HGL.out]; exact size_tok) (by rw [Nat.zero_add, show Value.cells (.agg (tokCells X G)) = tokCells X G from rfl, tok_size _ _ HGL.out, tok_size _ _ (length_zer 32)]; exact Nat.le_refl 37) (by exact one_tok _ _) (tokCells X G) (spl_agg _ _ _ rfl (by rw [tok_size _ _ HGL.out, tok_size _ _ (length_zer 32)])) (fun W71 HSx => hKK _ _ ?_); clear hKK KK HS; have HS : St w noF [⟨g2, 28, tokCells X G⟩, ⟨g4, 64, nmC nm ok⟩, ⟨g5, 28, tokCells X G⟩] W71 := HSx; clear HSx))
        exact bodyPost_ret (v := .tuple #[.agg (tokCells X G), .int .i64 0]) (results_cell_tmp Tryd.results25 _ _ g2 28 (tokCells X G) (0, 0) _ rfl (HS.row 0 rfl) Tryd.underlying28 rfl (by first | exact size_tok | (rw [tok_size _ _ HGL.out]; exact size_tok))) rfl ⟨rfl, HS.below⟩
theorem rtokdec_any (A : Option Addr) (cc : Nat) (q : List (BitVec 8)) (n : Nat) (hn : q.length = n) (w : World) (hs : Slice w (.slice A n cc) q) :
    Calls Tryd.prog 25 #[.slice A n cc] w fun e w' => e = .returned (.tuple #[.agg (tokCells (decC q) (decG q)), .int .i64 (decT q)]) ∧ Below w.heap.size w w' := by
  subst hn
  by_cases hl : q.length = 46
  · obtain ⟨g, o, rfl, hb, hc⟩ := slice_bat hs (by omega)
    rw [hl] at hc ⊢
    unfold decC decG decT
    rcases ref_dec hl with ⟨h1, h2⟩ | ⟨h1, h2⟩
    · rw [h2]; exact rtokdec_no g o cc q w hb hl hc h1
    · cases hd : decide (clmB (clmQ q) ++ q.drop 14 = q) with
      | false => rw [h2, hd]; exact rtokdec_not g o cc q w hb hl hc h1 hd
      | true => rw [h2, hd]; exact rtokdec_good g o cc q w hb hl hc h1 hd
  · have ht : tokOk q = false := by unfold tokOk; rw [decide_eq_false hl, Bool.false_and, Bool.false_and]
    unfold decC decG decT
    rw [ht]
    exact rtokdec_len A q.length cc w hl
end Go.Proofs.YtobklbfcnbmnmaaDoor
