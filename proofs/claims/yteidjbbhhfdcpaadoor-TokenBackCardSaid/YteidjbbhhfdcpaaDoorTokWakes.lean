/- The example of token's statements. -/
import Derived.Test.YteidjbbhhfdcpaaDoorTokPure
import Derived.Test.YteidjbbhhfdcpaaDoorKeepB
import Derived.Test.YteidjbbhhfdcpaaDoorStMore
set_option maxRecDepth 4000
namespace Go.Proofs.YteidjbbhhfdcpaaDoor
open Go Go.RowKit
def exC : Clm := ⟨2, [97#8, 98#8], 3, 258#32, 4#32⟩
def exG : List (BitVec 8) := zer 31 ++ [9#8]
theorem ex_0 : clm0.n.length ≤ maxLen := by unfold maxLen clm0; simp
theorem ex_1 : mayC clm0 = false := by decide +kernel
theorem ex_2 : mayC exC = true := by decide +kernel
theorem ex_3 : exG.length = 32 := by decide +kernel
theorem ex_4 : exC.n.length ≤ maxLen := by unfold maxLen exC; simp
theorem ex_len : (clmB exC ++ exG).length = 46 := by decide +kernel
theorem ex_get : (clmB exC ++ exG).getD 0 0#8 = 2#8 ∧ (clmB exC ++ exG).getD 1 0#8 = 97#8 ∧ (clmB exC ++ exG).getD 5 0#8 = 3#8 ∧ (clmB exC ++ exG).getD 6 0#8 = 2#8 ∧ (clmB exC ++ exG).getD 7 0#8 = 1#8 ∧ (clmB exC ++ exG).getD 10 0#8 = 4#8 ∧ (clmB exC ++ exG).getD 45 0#8 = 9#8 := by decide +kernel
theorem ex_lit : (#[.int .i64 2, .string ⟨#[97, 98]⟩, .int .i64 3, .int .u32 258, .int .u32 4] : Array Value) = clmCells exC := by
  unfold clmCells exC
  rw [show (⟨#[97, 98]⟩ : ByteArray) = strB [97#8, 98#8] by rw [strB_eq]; rfl]
  rfl
theorem spl_clm (c c' : Clm) (t : List (BitVec 8)) : (spl (tokCells c t).toList 0 (Value.agg (clmCells c')).cells.toList).toArray = tokCells c' t := by
  show (spl (clmCells c ++ bs t).toList 0 (clmCells c').toList).toArray = clmCells c' ++ bs t
  unfold spl
  rw [List.take_zero, List.nil_append, Nat.zero_add, Array.toList_append]
  have h5 : (clmCells c').toList.length = (clmCells c).toList.length := rfl
  rw [h5, List.drop_left]
  simp
theorem put_tag (c : Clm) : (tokCells c (zer 32)).setIfInBounds 36 (.int .u8 9) = tokCells c exG := by
  unfold tokCells
  apply Array.ext'
  rw [Array.toList_setIfInBounds, Array.toList_append, Array.toList_append, List.set_append_right _ _ (by show 5 ≤ 36; decide)]
  rfl
attribute [local go_sem high] eql_tok
set_option maxRecDepth 20000 in
set_option maxHeartbeats 1600000 in
theorem tkwakes_any (w : World) : Calls Tryd.prog 7 #[] w fun e w' => e = .returned (.bool true) ∧ Below w.heap.size w w' := by
  have HC0 := Lib.hid (fun w => claim_bad clm0 w ex_0 ex_1)
  rw [show clmCells clm0 = #[.int .i64 0, .string ⟨#[]⟩, .int .i64 0, .int .u32 0, .int .u32 0] by unfold clmCells clm0; rw [str_lit0]; rfl] at HC0
  have hb : clmB exC ++ exG = (clmB exC ++ exG) := rfl
  obtain ⟨B, hB⟩ : ∃ B, clmB exC ++ exG = B := ⟨_, rfl⟩
  have HBL : Hid (B.length = 46) := Lib.hid (by rw [← hB]; exact ex_len)
  have HGET : Hid (B.getD 0 0#8 = 2#8 ∧ B.getD 1 0#8 = 97#8 ∧ B.getD 5 0#8 = 3#8 ∧ B.getD 6 0#8 = 2#8 ∧ B.getD 7 0#8 = 1#8 ∧ B.getD 10 0#8 = 4#8 ∧ B.getD 45 0#8 = 9#8) := Lib.hid (by rw [← hB]; exact ex_get)
  have HTK : Hid (B.take 14 = clmB exC) := Lib.hid (by rw [← hB]; exact List.take_left' (length_clmB _))
  have HBK := tok_back (c := exC) (t := exG) ex_2 ex_3
  have HEN := Lib.hid (fun w => tokenc_good exC exG w ex_3 ex_4 ex_2)
  rw [hB] at HEN HBK
  have HDC : Hid (∀ A cc w, Slice w (.slice A 46 cc) B → Calls Tryd.prog 12 #[.slice A 46 cc] w fun e w' => e = .returned (.tuple #[.agg (tokCells exC exG), .int .i64 0]) ∧ Below w.heap.size w w') := Lib.hid (fun A cc w hs => by
    have := tokdec_any A cc B 46 HBL.out w hs
    unfold decC decG decT at this
    rw [HBK.1, if_pos rfl, if_pos rfl, if_pos rfl, HBK.2.1, HBK.2.2] at this
    exact this)
  have HCM := Lib.hid (fun w => claim_good exC w ex_4 ex_2)
  rw [length_clmB] at HCM
  have HPUT := Lib.hid (put_tag exC)
  have HTLh : Hid (exG.length = 32) := Lib.hid ex_3
  have HCL : Hid ((spl (tokCells clm0 (zer 32)).toList 0 (Value.agg #[.int .i64 2, .string ⟨#[97, 98]⟩, .int .i64 3, .int .u32 258, .int .u32 4]).cells.toList).toArray = tokCells exC (zer 32)) := Lib.hid (by rw [ex_lit]; exact spl_clm clm0 exC (zer 32))
  have HONE : Hid ((Value.agg #[.int .i64 2, .string ⟨#[97, 98]⟩, .int .i64 3, .int .u32 258, .int .u32 4]).cells.all (·.oneCell') = true) := Lib.hid (by rw [ex_lit]; unfold clmCells; simp [Value.cells, Value.oneCell'])
  have HCBL := Lib.hid (length_clmB exC)
  generalize exC = c at *
  generalize exG = tg at *
  have HTL : tg.length = 32 := HTLh.out
  have HTS := Lib.hid (tok_size c tg HTL)
  have HTZ : Hid ((Tryd.prog.info? 28).map (·.size) = some (tokCells c tg).size) := Lib.hid (by rw [HTS.out]; exact size_tok)
  have HSZ : Hid (((tokCells c tg).toList.drop 0).take (clmCells c).size = (clmCells c).toList) := Lib.hid (tok_clm c tg)
  obtain ⟨P, hP⟩ : ∃ P, clmB c = P := ⟨_, rfl⟩
  rw [hP] at HTK HCM HCBL
  clear hB hb HBK hP
  have HS := St.nil w noF
  go_enter Tryd.func7, Tryd.ntmps7
  go_upto_region 1 with fail
  go_upto_region 2 with (first | ((with_reducible refine wpList_plain ?_ ?_); exact rfl; intro KK hKK; refine wp_st_alloc HS 28 (tokCells clm0 (zer 32)) rfl (.agg (tokCells clm0 (zer 32))) (by exact zero_tok) (rfl) (fun g1 W1 HSx => hKK _ _ ?_); clear hKK KK HS; have HS : St w noF [⟨g1, 28, tokCells clm0 (zer 32)⟩] W1 := HSx; clear HSx))
  go_upto_region 3 with (first | ((with_reducible refine wpList_plain ?_ ?_); exact rfl; intro KK hKK; refine wp_st_store HS 0 0 24 (.tmp 11) (.tmp 10) rfl rfl rfl (.agg #[.int .i64 2, .string ⟨#[97, 98]⟩, .int .i64 3, .int .u32 258, .int .u32 4]) rfl (by exact size_clm) (by rw [tok_size _ _ (length_zer 32)]; exact Nat.le_of_ble_eq_true rfl) (HONE.out) (tokCells c (zer 32)) (HCL.out) (fun W2 HSx => hKK _ _ ?_); clear hKK KK HS; have HS : St w noF [⟨g1, 28, tokCells c (zer 32)⟩] W2 := HSx; clear HSx))
  go_upto_region 4 with (first | ((with_reducible refine wpList_plain ?_ ?_); exact rfl; intro KK hKK; refine wp_st_put HS 0 36 5 (.tmp 13) (.const (.int .u8 9)) rfl rfl rfl (.int .u8 9) rfl (by kernel_rfl) rfl rfl (by show 36 < (tokCells c (zer 32)).size; rw [tok_size _ _ (length_zer 32)]; decide) (tokCells c tg) (HPUT.out) (fun W3 HSx => hKK _ _ ?_); clear hKK KK HS; have HS : St w noF [⟨g1, 28, tokCells c tg⟩] W3 := HSx; clear HSx))
  have hHT := HTL
  clear HTL
  go_wp2_with (first | ((with_reducible refine wpList_plain ?_ ?_); exact rfl; intro KK hKK; refine wp_st_load HS 0 0 28 (.tmp 1) rfl rfl rfl (tokCells c tg) (slab_whole _) _ Tryd.underlying28 rfl (by exact HTZ.out) (hKK _ _ ?_); clear hKK KK))
  refine (HEN.out _).mono ?_
  rintro e w1 ⟨v1, rfl, ho, hb1⟩
  have HSx := HS.same hb1
  clear HS hb1 HEN
  have HS := HSx
  clear HSx
  have hs := own_slice ho
  obtain ⟨A, cc, rfl, hcc⟩ := own_slice_form ho
  rw [HBL.out] at hs hcc ⊢
  obtain ⟨gb, ob, rfl, hba, _⟩ := slice_bat hs (by rw [HBL.out]; decide)
  have HBA := Lib.hid hba
  have C := HDC.out (some ⟨gb, ob, none⟩) cc w1 hs
  clear hs ho hba HDC
  go_wp2_with fail
  refine C.mono ?_
  rintro e w2 ⟨rfl, hb2⟩
  have HSx := HS.same hb2
  have HBAx := HBA.out.call hb2
  have HR1x : Row w2 g1 28 (tokCells c tg) := HSx.row 0 rfl
  have HB2 := Lib.hid HSx.below
  clear HS hb2 C HBA HSx
  have HT := St.nil w2 noF
  go_upto_region 6 with (first | ((with_reducible refine wpList_plain ?_ ?_); exact rfl; intro KK hKK; refine wp_st_alloc HT 28 (tokCells clm0 (zer 32)) rfl (.agg (tokCells clm0 (zer 32))) (by exact zero_tok) (rfl) (fun g4 W21 HSx => hKK _ _ ?_); clear hKK KK HT; have HT : St w2 noF [⟨g4, 28, tokCells clm0 (zer 32)⟩] W21 := HSx; clear HSx) | ((with_reducible refine wpList_plain ?_ ?_); exact rfl; intro KK hKK; refine wp_st_store HT 0 0 28 (.tmp 4) (.tmp 22) rfl rfl rfl (.agg (tokCells c tg)) rfl (by exact HTZ.out) (by rw [Nat.zero_add, show Value.cells (.agg (tokCells c tg)) = tokCells c tg from rfl, HTS.out, tok_size _ _ (length_zer 32)]; exact Nat.le_refl 37) (by exact one_tok _ _) (tokCells c tg) (spl_agg _ _ _ rfl (by rw [HTS.out, tok_size _ _ (length_zer 32)])) (fun W22 HSx => hKK _ _ ?_); clear hKK KK HT; have HT : St w2 noF [⟨g4, 28, tokCells c tg⟩] W22 := HSx; clear HSx))
  have HR1 : Hid (Row W22 g1 28 (tokCells c tg)) := Lib.hid (HR1x.call HT.below)
  have HR4 : Hid (Row W22 g4 28 (tokCells c tg)) := Lib.hid (HT.row 0 rfl)
  have HBA : Hid (BAt W22 gb ob B) := Lib.hid (HBAx.call HT.below)
  have HB3 := Lib.hid (HB2.out.trans (HT.below.mono HB2.out.size))
  clear HR1x HBAx HT HB2
  go_wp2_with (first | ((with_reducible refine wpList_plain ?_ ?_); exact rfl; intro KK hKK; refine wp_load_mid 24 (.tmp 25) rfl g1 0 rfl (clmCells c).toList _ (HR1.out.slab 0 _ HSZ.out) Tryd.underlying24 rfl (by exact size_clm) (hKK _ _ ?_); clear hKK KK))
  refine (HCM.out _).mono ?_
  rintro e w5 ⟨v6, rfl, ho, hb⟩
  have HR1x := Lib.hid (HR1.out.call hb)
  have HR4x := Lib.hid (HR4.out.call hb)
  have HBAx := Lib.hid (HBA.out.call hb)
  have HB5 := Lib.hid (HB3.out.trans (hb.mono HB3.out.size))
  have hs6 := own_slice (by rw [HCBL.out]; exact ho)
  clear HR1 HR4 HBA HB3 hb ho HCM
  go_wp2_with fail
  refine (HC0.out w5).mono ?_
  rintro e w6 ⟨rfl, hb⟩
  have HR1 := Lib.hid (HR1x.out.call hb)
  have HR4 := Lib.hid (HR4x.out.call hb)
  have HBA := Lib.hid (HBAx.out.call hb)
  have HB6 := Lib.hid (HB5.out.trans (hb.mono HB5.out.size))
  have HS6 := Lib.hid (hs6.below hb (Nat.le_refl _))
  clear HR1x HR4x HBAx HB5 hb hs6 HC0
  have d0 : w6.cell? ⟨gb, ob, none⟩ = some (.int .u8 2) := by have h := HBA.out.get 0 (by rw [HBL.out]; decide); rw [HGET.out.1] at h; exact h
  have d1 : w6.cell? ⟨gb, ob + 1, none⟩ = some (.int .u8 97) := by have h := HBA.out.get 1 (by rw [HBL.out]; decide); rw [HGET.out.2.1] at h; exact h
  have d5 : w6.cell? ⟨gb, ob + 5, none⟩ = some (.int .u8 3) := by have h := HBA.out.get 5 (by rw [HBL.out]; decide); rw [HGET.out.2.2.1] at h; exact h
  have d6 : w6.cell? ⟨gb, ob + 6, none⟩ = some (.int .u8 2) := by have h := HBA.out.get 6 (by rw [HBL.out]; decide); rw [HGET.out.2.2.2.1] at h; exact h
  have d7 : w6.cell? ⟨gb, ob + 7, none⟩ = some (.int .u8 1) := by have h := HBA.out.get 7 (by rw [HBL.out]; decide); rw [HGET.out.2.2.2.2.1] at h; exact h
  have d10 : w6.cell? ⟨gb, ob + 10, none⟩ = some (.int .u8 4) := by have h := HBA.out.get 10 (by rw [HBL.out]; decide); rw [HGET.out.2.2.2.2.2.1] at h; exact h
  have d45 : w6.cell? ⟨gb, ob + 45, none⟩ = some (.int .u8 9) := by have h := HBA.out.get 45 (by rw [HBL.out]; decide); rw [HGET.out.2.2.2.2.2.2] at h; exact h
  have HTL := hHT
  have hcc1 : (14 : Int) ≤ (cc : Int) := by omega
  have hcc2 : 14 ≤ cc := by omega
  have hcc3 : (46 : Int) ≤ (cc : Int) := by omega
  go_wp2_with (first | ((with_reducible refine wplG_row 28 4 g4 28 (tokCells c tg) (0, 0) _ ?_ ?_ ?_ Tryd.underlying28 ?_ ?_ ?_); exact rfl; exact rfl; exact HR4.out; exact rfl; exact HTZ.out) | ((with_reducible refine wplG_row 28 1 g1 28 (tokCells c tg) (0, 0) _ ?_ ?_ ?_ Tryd.underlying28 ?_ ?_ ?_); exact rfl; exact rfl; exact HR1.out; exact rfl; exact HTZ.out))
  have hs9 : Slice w6 (.slice (some ⟨gb, ob, none⟩) 14 cc) P := by rw [← HTK.out]; exact (HBA.out.take 14).slice (by rw [List.length_take, HBL.out]; rfl) hcc2
  refine (keepb_any v6 _ P P w6 HS6.out hs9).mono ?_
  rintro e w7 ⟨rfl, rfl⟩
  rw [decide_eq_true (rfl : P = P)]
  clear hs9 d0 d1 d5 d6 d7 d10 d45
  go_wp2_with fail
  go_ret
  exact ⟨rfl, HB6.out⟩
theorem dec_len {q : List (BitVec 8)} (h : ¬ q.length = 46) : decC q = clm0 ∧ decG q = zer 32 ∧ decT q = 11 := by
  have ht : tokOk q = false := by unfold tokOk; rw [decide_eq_false h, Bool.false_and, Bool.false_and]
  unfold decC decG decT
  rw [ht]; exact ⟨rfl, rfl, rfl⟩
theorem dec_tok {c : Clm} {t : List (BitVec 8)} (h : mayC c = true) (ht : t.length = 32) : decC (clmB c ++ t) = c ∧ decG (clmB c ++ t) = t ∧ decT (clmB c ++ t) = 0 := by
  obtain ⟨h1, h2, h3⟩ := tok_back h ht
  unfold decC decG decT
  rw [h1, if_pos rfl, if_pos rfl, if_pos rfl]
  exact ⟨h2, h3, rfl⟩
theorem built_tok0 : Tryd.prog.built 28 [] = some (tokCells clm0 (zer 32)) := by
  have h := tok0_eq
  unfold tok0V at h
  injection h with h
  have k : Tryd.prog.built 28 [] = some (#[.int .i64 0, .string ⟨#[]⟩, .int .i64 0, .int .u32 0, .int .u32 0] ++ bs (zer 32)) := by kernel_rfl
  rw [k, h]
theorem tok_get (c : Clm) (t : List (BitVec 8)) {k : Nat} {v : Value} (h : (clmCells c)[k]? = some v) : (tokCells c t)[k]? = some v := by
  unfold tokCells
  rw [Array.getElem?_append_left (Array.getElem?_eq_some_iff.1 h).1]; exact h
theorem slice_at {w : World} {g o n c : Nat} {q : List (BitVec 8)} (h : Slice w (.slice (some ⟨g, o, none⟩) n c) q) (hq : 0 < q.length) : BAt w g o q := by
  obtain ⟨g', o', e, hb, _⟩ := slice_bat h hq
  injection e with e
  injection e with e1 e2
  subst e1 e2
  exact hb
theorem wplG_build0 {P : Program} {ops : Array Oper} {rest : List Oper} {dst : Option Tmp} {type : TypeId} {pos : String} {after : Array Edge} {gd : Option (Nat × Bool)} {a : Act} {w : World} {Q : Exit → Act → World → Prop} (t : TypeId) (cs : Array Value)
    (hw : Region.wanted { dst := dst, op := .build t #[], type := type, pos := pos, after := after, guard := gd } (yielded ops a.tmps) = true) (hb : P.built t [] = some cs)
    (h : wpList P ops Q rest (a.put dst (.agg cs)) w) : wpList P ops Q ({ dst := dst, op := .build t #[], type := type, pos := pos, after := after, guard := gd } :: rest) a w :=
  wpList_guarded hw fun _ hK => wp_build t #[] rfl (by simp [hb]) (by simpa [hb] using hK _ _ h)
end Go.Proofs.YteidjbbhhfdcpaaDoor
