/- The statement TokenTurns: its walk. -/
import Derived.Test.YteidjbbhhfdcpaaDoorTokWakes
set_option maxRecDepth 4000
namespace Go.Proofs.YteidjbbhhfdcpaaDoor
open Go Go.RowKit
attribute [local go_sem] strB_size xor_bd i64_bd
theorem mod46 (x : BitVec 8) : ∃ K : Nat, K < 46 ∧ (bd x).tmod 46 = (K : Int) := by
  have h := bd_lo x
  rw [Int.tmod_eq_emod_of_nonneg h]
  exact ⟨(bd x % 46).toNat, by omega, by omega⟩
theorem dec_len {q : List (BitVec 8)} (h : ¬ q.length = 46) : decC q = clm0 ∧ decG q = zer 32 ∧ decT q = 11 := by
  have ht : tokOk q = false := by unfold tokOk; rw [decide_eq_false h, Bool.false_and, Bool.false_and]
  unfold decC decG decT
  rw [ht]; exact ⟨rfl, rfl, rfl⟩
theorem dec_tok {c : Clm} {t : List (BitVec 8)} (h : mayC c = true) (ht : t.length = 32) : decC (clmB c ++ t) = c ∧ decG (clmB c ++ t) = t ∧ decT (clmB c ++ t) = 0 := by
  obtain ⟨h1, h2, h3⟩ := tok_back h ht
  unfold decC decG decT
  rw [h1, if_pos rfl, if_pos rfl, if_pos rfl]
  exact ⟨h2, h3, rfl⟩
/- a byte turned: none's, or another token's -/
theorem dec_turn {c : Clm} {t q : List (BitVec 8)} (h : mayC c = true) (ht : t.length = 32) :
    (decT q = 0 ∨ (decT q = 11 ∧ decC q = clm0 ∧ decG q = zer 32)) ∧ ((decC q = c ∧ decG q = t) ↔ q = clmB c ++ t) := by
  cases hk : tokOk q with
  | false =>
    have h1 : decC q = clm0 := by unfold decC; rw [hk]; rfl
    have h2 : decG q = zer 32 := by unfold decG; rw [hk]; rfl
    have h3 : decT q = 11 := by unfold decT; rw [hk]; rfl
    refine ⟨.inr ⟨h3, h1, h2⟩, fun k => ?_, fun k => ?_⟩
    · rw [h1] at k
      rw [← k.1] at h
      exact absurd h (by decide)
    · subst k
      rw [(tok_back h ht).1] at hk; cases hk
  | true =>
    have h1 : decC q = clmQ q := by unfold decC; rw [hk]; rfl
    have h2 : decG q = q.drop 14 := by unfold decG; rw [hk]; rfl
    have h3 : decT q = 0 := by unfold decT; rw [hk]; rfl
    refine ⟨.inl h3, fun k => ?_, fun k => ?_⟩
    · rw [← k.1, ← k.2, h1, h2]; exact (tok_forth hk).symm
    · subst k; exact ⟨(dec_tok h ht).1, (dec_tok h ht).2.1⟩
theorem set_turn (B : List (BitVec 8)) (K : Nat) (hK : K < B.length) (y : BitVec 8) : (B.set K (B.getD K 0#8 ^^^ y) = B) ↔ y = 0#8 := by
  have e : B.getD K 0#8 = B[K] := by rw [List.getD_eq_getElem?_getD, List.getElem?_eq_getElem hK]; rfl
  constructor
  · intro h
    have h1 := congrArg (fun l => l[K]?) h
    simp only [List.getElem?_set_self hK, List.getElem?_eq_getElem hK, Option.some.injEq] at h1
    rw [e] at h1
    have h2 : B[K] ^^^ (B[K] ^^^ y) = B[K] ^^^ B[K] := by rw [h1]
    rwa [← BitVec.xor_assoc, BitVec.xor_self, BitVec.zero_xor] at h2
  · rintro rfl
    rw [BitVec.xor_zero, e, List.set_getElem_self]
theorem built_tok0 : Tryd.prog.built 28 [] = some (tokCells clm0 (zer 32)) := by
  have h := tok0_eq
  unfold tok0V at h
  injection h with h
  have k : Tryd.prog.built 28 [] = some (#[.int .i64 0, .string ⟨#[]⟩, .int .i64 0, .int .u32 0, .int .u32 0] ++ bs (zer 32)) := by kernel_rfl
  rw [k, h]
theorem tok_get (c : Clm) (t : List (BitVec 8)) {k : Nat} {v : Value} (h : (clmCells c)[k]? = some v) : (tokCells c t)[k]? = some v := by
  unfold tokCells
  rw [Array.getElem?_append_left (Array.getElem?_eq_some_iff.1 h).1]; exact h
theorem slice_at {w : World} {g o n c : Nat} {q : List (BitVec 8)} (h : Slice w (.slice (some ⟨g, o, none⟩) n c) q) (hq : 0 < q.length) : BAt w g o q := by
  obtain ⟨g', o', e, hb, _⟩ := slice_bat h hq
  injection e with e
  injection e with e1 e2
  subst e1 e2
  exact hb
theorem wplG_build0 {P : Program} {ops : Array Oper} {rest : List Oper} {dst : Option Tmp} {type : TypeId} {pos : String} {after : Array Edge} {gd : Option (Nat × Bool)} {a : Act} {w : World} {Q : Exit → Act → World → Prop} (t : TypeId) (cs : Array Value)
    (hw : Region.wanted { dst := dst, op := .build t #[], type := type, pos := pos, after := after, guard := gd } (yielded ops a.tmps) = true) (hb : P.built t [] = some cs)
    (h : wpList P ops Q rest (a.put dst (.agg cs)) w) : wpList P ops Q ({ dst := dst, op := .build t #[], type := type, pos := pos, after := after, guard := gd } :: rest) a w :=
  wpList_guarded hw fun _ hK => wp_build t #[] rfl (by simp [hb]) (by simpa [hb] using hK _ _ h)
set_option maxRecDepth 20000 in
set_option maxHeartbeats 3200000 in
theorem tkturns_walk (c : Clm) (tg : List (BitVec 8)) (x y : BitVec 8) (w : World) (ht : tg.length = 32) (hm : c.n.length ≤ maxLen) :
    Calls Tryd.prog 6 #[.agg (tokCells c tg), .int .u8 (bd x), .int .u8 (bd y)] w fun e w' => e = .returned (.bool true) ∧ Below w.heap.size w w' := by
  have HTS := Lib.hid (tok_size c tg ht)
  have HTZ : Hid ((Tryd.prog.info? 28).map (·.size) = some (tokCells c tg).size) := Lib.hid (by rw [HTS.out]; exact size_tok)
  have HTL := Lib.hid ht
  have HM := Lib.hid hm
  obtain ⟨nl, hnl⟩ : ∃ nl, c.n.length = nl := ⟨_, rfl⟩
  have HS := St.nil w noF
  clear hm ht
  by_cases hbig : 100 < nl
  · have hd : decide (100 < (nl : Int)) = true := decide_eq_true (by omega)
    go_enter Tryd.func6, Tryd.ntmps6
    go_upto_region 1 with (first | ((with_reducible refine wpList_plain ?_ ?_); exact rfl; intro KK hKK; refine wp_st_box HS 28 (.tmp 0) rfl _ rfl (tokCells c tg) (rfl) (fun g1 W1 HSx => hKK _ _ ?_); clear hKK KK HS; have HS : St w noF [⟨g1, 28, tokCells c tg⟩] W1 := HSx; clear HSx))
    have c1 : W1.cell? ⟨g1, 1, none⟩ = some (.string (strB c.n)) := (HS.row 0 rfl).get (tok_get _ _ rfl)
    go_wp2_with fail
    refine (tkwakes_any W1).mono ?_
    rintro e w99 ⟨rfl, hb⟩
    go_wp2_with fail
    go_ret
    exact ⟨rfl, HS.below.trans (hb.mono HS.below.size)⟩
  have hd : decide (100 < (nl : Int)) = false := decide_eq_false (by omega)
  cases hc : mayC c with
  | false =>
    have HE := Lib.hid (fun w => tokenc_bad c tg w HM.out hc)
    clear hc
    go_enter Tryd.func6, Tryd.ntmps6
    go_upto_region 1 with (first | ((with_reducible refine wpList_plain ?_ ?_); exact rfl; intro KK hKK; refine wp_st_box HS 28 (.tmp 0) rfl _ rfl (tokCells c tg) (rfl) (fun g1 W1 HSx => hKK _ _ ?_); clear hKK KK HS; have HS : St w noF [⟨g1, 28, tokCells c tg⟩] W1 := HSx; clear HSx))
    have c1 : W1.cell? ⟨g1, 1, none⟩ = some (.string (strB c.n)) := (HS.row 0 rfl).get (tok_get _ _ rfl)
    go_upto_region 3 with fail
    clear c1 hd hnl
    go_wp2_with (first | ((with_reducible refine wpList_plain ?_ ?_); exact rfl; intro KK hKK; refine wp_st_load HS 0 0 28 (.tmp 3) rfl rfl rfl (tokCells c tg) (slab_whole _) _ Tryd.underlying28 rfl (by exact HTZ.out) (hKK _ _ ?_); clear hKK KK))
    refine (HE.out _).mono ?_
    rintro e w1 ⟨rfl, hb⟩
    have HSx := HS.same hb
    clear HS hb HE
    go_wp2_with fail
    refine (tkwakes_any w1).mono ?_
    rintro e w99 ⟨rfl, hb⟩
    go_wp2_with fail
    go_ret
    exact ⟨rfl, HSx.below.trans (hb.mono HSx.below.size)⟩
  | true =>
    have HE := Lib.hid (fun w => tokenc_good c tg w HTL.out HM.out hc)
    obtain ⟨K, hK46, hKm⟩ := mod46 x
    obtain ⟨B, hB⟩ : ∃ B, clmB c ++ tg = B := ⟨_, rfl⟩
    have HBL : Hid (B.length = 46) := Lib.hid (by rw [← hB, List.length_append, length_clmB, HTL.out])
    obtain ⟨C, hC⟩ : ∃ C, B.set K (B.getD K 0#8 ^^^ y) = C := ⟨_, rfl⟩
    have HCL : Hid (C.length = 46) := Lib.hid (by rw [← hC, List.length_set, HBL.out])
    have HSC := Lib.hid hC
    have HTURN : Hid ((decT C = 0 ∨ (decT C = 11 ∧ decC C = clm0 ∧ decG C = zer 32)) ∧ ((decC C = c ∧ decG C = tg) ↔ y = 0#8)) := Lib.hid (by
      have h1 := dec_turn (c := c) (t := tg) (q := C) hc HTL.out
      refine ⟨h1.1, h1.2.trans ?_⟩
      rw [hB, ← hC]
      exact set_turn B K (by rw [HBL.out]; exact hK46) y)
    rw [hB] at HE
    have HDC : Hid (∀ A cc w, Slice w (.slice A 46 cc) C → Calls Tryd.prog 12 #[.slice A 46 cc] w fun e w' => e = .returned (.tuple #[.agg (tokCells (decC C) (decG C)), .int .i64 (decT C)]) ∧ Below w.heap.size w w') := Lib.hid (fun A cc w hs => tokdec_any A cc C 46 HCL.out w hs)
    have HDN : Hid (∀ A n cc w, ¬ n = 46 → Calls Tryd.prog 12 #[.slice A n cc] w fun e w' => e = .returned (.tuple #[.agg (tokCells clm0 (zer 32)), .int .i64 11]) ∧ Below w.heap.size w w') := Lib.hid (fun A n cc w h => tokdec_len A n cc w h)
    have HGL : Hid ((decG C).length = 32) := Lib.hid (length_decG C)
    generalize decC C = X at *
    generalize decG C = G at *
    generalize decT C = E at *
    clear hc hB hC
    have HK46 := Lib.hid hK46
    have HKM := Lib.hid hKm
    clear hK46 hKm
    go_enter Tryd.func6, Tryd.ntmps6
    go_upto_region 1 with (first | ((with_reducible refine wpList_plain ?_ ?_); exact rfl; intro KK hKK; refine wp_st_box HS 28 (.tmp 0) rfl _ rfl (tokCells c tg) (rfl) (fun g1 W1 HSx => hKK _ _ ?_); clear hKK KK HS; have HS : St w noF [⟨g1, 28, tokCells c tg⟩] W1 := HSx; clear HSx))
    have c1 : W1.cell? ⟨g1, 1, none⟩ = some (.string (strB c.n)) := (HS.row 0 rfl).get (tok_get _ _ rfl)
    go_upto_region 3 with fail
    clear c1 hd hnl
    go_wp2_with (first | ((with_reducible refine wpList_plain ?_ ?_); exact rfl; intro KK hKK; refine wp_st_load HS 0 0 28 (.tmp 3) rfl rfl rfl (tokCells c tg) (slab_whole _) _ Tryd.underlying28 rfl (by exact HTZ.out) (hKK _ _ ?_); clear hKK KK))
    refine (HE.out _).mono ?_
    rintro e w1 ⟨v1, rfl, ho, hb1⟩
    have HSx := HS.same hb1
    clear HS hb1 HE
    obtain ⟨gb, cb, curb, rfl, _, hrb, hcb, htb⟩ := own_row ho (by rw [HBL.out]; decide)
    have HBA : Hid (BAt w1 gb 0 B) := Lib.hid (slice_at (row_pre (q := B) hrb htb hcb) (by rw [HBL.out]; decide))
    rw [HBL.out] at hcb ⊢
    have HCB : Hid (46 ≤ cb) := Lib.hid hcb
    have HB1 := Lib.hid HSx.below
    have HR1 : Hid (Row w1 g1 28 (tokCells c tg)) := Lib.hid (HSx.row 0 rfl)
    clear ho hrb hcb htb HSx
    have hS2 : Slice (w1.alloc (.cells #[] 5)) (.slice (some ⟨gb, 0, none⟩) 46 cb) B := (HBA.out.call ((Below.refl w1.heap.size w1).alloc (Nat.le_refl _) _)).slice HBL.out HCB.out
    go_upto_region 7 with (at_builtin; refine wpList_append_slice rfl (.tmp 39) (.tmp 40) rfl w1.heap.size _ 0 [] rfl (own_empty w1) (some ⟨gb, 0, none⟩) 46 cb B rfl hS2 (fun h => by cases h) (by decide) (by simp) ?_; intro kv w4 own1 hb4; simp only [Nat.zero_add, List.nil_append] at own1; clear hS2)
    rw [← HBL.out] at own1
    obtain ⟨gc, cc, cur, rfl, hgc, hrc, hcc, htc⟩ := own_row own1 (by rw [HBL.out]; decide)
    have hb14 := ((Below.refl w1.heap.size w1).alloc (Nat.le_refl _) (.cells #[] 5)).trans hb4
    have hcell : w4.cell? ⟨gc, K, none⟩ = some (.int .u8 (bd (B.getD K 0#8))) := row_at hrc htc (m := K) (by rw [HBL.out]; exact HK46.out)
    have hfree := hrc.free K
    have HSL : Hid (Slice (w4.setCell ⟨gc, K, none⟩ (.int .u8 (bd (B.getD K 0#8 ^^^ y)))) (.slice (some ⟨gc, 0, none⟩) 46 cc) C) := Lib.hid (by
      have := slice_set hrc htc hcc (m := K) (by rw [HBL.out]; exact HK46.out) (B.getD K 0#8 ^^^ y)
      rw [HSC.out, HBL.out] at this
      exact this)
    have hb15 := hb14.setCell (p := ⟨gc, K, none⟩) hgc (.int .u8 (bd (B.getD K 0#8 ^^^ y)))
    rw [HBL.out]
    obtain ⟨x0, hx0⟩ : ∃ x0, B.getD K 0#8 = x0 := ⟨_, rfl⟩
    rw [hx0] at hcell HSL hb15
    have hK0 : (0 : Int) ≤ (K : Int) := by omega
    have hK1 : (K : Int) < 46 := by have := HK46.out; omega
    have hK2 : K < 46 := HK46.out
    have hkm := HKM.out
    clear own1 hb4 hb14 hrc htc hcc hgc hx0
    go_upto_region 8 with fail
    obtain ⟨w5, hw5⟩ : ∃ w5, w4.setCell ⟨gc, K, none⟩ (.int .u8 (bd (x0 ^^^ y))) = w5 := ⟨_, rfl⟩
    rw [hw5] at HSL hb15 ⊢
    clear hw5 hcell hfree hK0 hK1 hK2 hkm
    have HR1x := Lib.hid (HR1.out.call hb15)
    have HBAx := Lib.hid (HBA.out.call hb15)
    have HB5 := Lib.hid (HB1.out.trans (hb15.mono HB1.out.size))
    clear HR1 HBA HB1 hb15
    have CD := HDC.out _ _ w5 HSL.out
    have HT := St.nil w5 noF
    clear HSL HDC HSC HCL
    go_wp2_with fail
    refine CD.mono ?_
    rintro e w6 ⟨rfl, hb⟩
    have HTx := HT.same hb
    clear HT hb CD
    have HT := HTx
    clear HTx
    go_upto_region 9 with (first | ((with_reducible refine wpList_plain ?_ ?_); exact rfl; intro KK hKK; refine wp_st_alloc HT 28 (tokCells clm0 (zer 32)) rfl (.agg (tokCells clm0 (zer 32))) (by exact zero_tok) (rfl) (fun g10 W21 HSx => hKK _ _ ?_); clear hKK KK HT; have HT : St w5 noF [⟨g10, 28, tokCells clm0 (zer 32)⟩] W21 := HSx; clear HSx) | ((with_reducible refine wpList_plain ?_ ?_); exact rfl; intro KK hKK; refine wp_st_store HT 0 0 28 (.tmp 10) (.tmp 54) rfl rfl rfl (.agg (tokCells X G)) rfl (by rw [show Value.cells (.agg (tokCells X G)) = tokCells X G from rfl, tok_size _ _ HGL.out]; exact size_tok) (by rw [Nat.zero_add, show Value.cells (.agg (tokCells X G)) = tokCells X G from rfl, tok_size _ _ HGL.out, tok_size _ _ (length_zer 32)]; exact Nat.le_refl 37) (by exact one_tok _ _) (tokCells X G) (spl_agg _ _ _ rfl (by rw [tok_size _ _ HGL.out, tok_size _ _ (length_zer 32)])) (fun W22 HSx => hKK _ _ ?_); clear hKK KK HT; have HT : St w5 noF [⟨g10, 28, tokCells X G⟩] W22 := HSx; clear HSx))
    have CN := HDN.out (some ⟨gb, 0, none⟩) 45 cb W22 (by decide)
    have k45 : (45 : Int) ≤ (cb : Int) := by have := HCB.out; omega
    have k46 : 45 ≤ cb := by have := HCB.out; omega
    go_wp2_with fail
    refine CN.mono ?_
    rintro e w7 ⟨rfl, hb⟩
    have HTx := HT.same hb
    clear HT hb CN k45 k46
    have HT := HTx
    clear HTx
    go_upto_region 10 with (first | ((with_reducible refine wpList_plain ?_ ?_); exact rfl; intro KK hKK; refine wp_st_alloc HT 28 (tokCells clm0 (zer 32)) rfl (.agg (tokCells clm0 (zer 32))) (by exact zero_tok) (rfl) (fun g12 W23 HSx => hKK _ _ ?_); clear hKK KK HT; have HT : St w5 noF [⟨g10, 28, tokCells X G⟩, ⟨g12, 28, tokCells clm0 (zer 32)⟩] W23 := HSx; clear HSx) | ((with_reducible refine wpList_plain ?_ ?_); exact rfl; intro KK hKK; refine wp_st_store HT 1 0 28 (.tmp 12) (.tmp 60) rfl rfl rfl (.agg (tokCells clm0 (zer 32))) rfl (by rw [show Value.cells (.agg (tokCells clm0 (zer 32))) = tokCells clm0 (zer 32) from rfl, tok_size _ _ (length_zer 32)]; exact size_tok) (by rw [Nat.zero_add, show Value.cells (.agg (tokCells clm0 (zer 32))) = tokCells clm0 (zer 32) from rfl, tok_size _ _ (length_zer 32)]; exact Nat.le_refl 37) (by exact one_tok _ _) (tokCells clm0 (zer 32)) (spl_agg _ _ _ rfl rfl) (fun W24 HSx => hKK _ _ ?_); clear hKK KK HT; have HT : St w5 noF [⟨g10, 28, tokCells X G⟩, ⟨g12, 28, tokCells clm0 (zer 32)⟩] W24 := HSx; clear HSx))
    have hS2 : Slice (W24.alloc (.cells #[] 5)) (.slice (some ⟨gb, 0, none⟩) 46 cb) B := (HBAx.out.call (HT.below.trans (((Below.refl W24.heap.size W24).alloc (Nat.le_refl _) _).mono HT.below.size))).slice HBL.out HCB.out
    go_wp2_with (first | (at_builtin; refine wpList_append_slice rfl (.tmp 63) (.tmp 64) rfl W24.heap.size _ 0 [] rfl (own_empty W24) (some ⟨gb, 0, none⟩) 46 cb B rfl hS2 (fun h => by cases h) (by decide) (by simp) ?_; intro kv w10 own1 hb4; simp only [Nat.zero_add, List.nil_append] at own1; clear hS2; have hb910 := ((Below.refl W24.heap.size W24).alloc (Nat.le_refl _) (.cells #[] 5)).trans hb4; have hS3 : Slice (w10.alloc (.cells #[.int .u8 0] 5)) (.slice (some ⟨w10.heap.size, 0, none⟩) 1 1) [0#8] := row_slice (Row.fresh w10 5 (bs [0#8])) (c := 1) (Nat.le_refl _); have own2 := own1.alloc (.cells #[.int .u8 0] 5); have hb911 := hb910.alloc hb910.size (.cells #[.int .u8 0] 5); clear hb4 hb910 own1) | (at_builtin; refine wpList_append_slice rfl (.tmp 65) (.tmp 66) rfl W24.heap.size _ 46 _ rfl own2 (some ⟨w10.heap.size, 0, none⟩) 1 1 _ rfl hS3 (fun h => by cases h) (by decide) hb911.size ?_; intro kv2 w11 own3 hb4; have hb9 := hb911.trans hb4; clear own2 hS3 hb911 hb4))
    obtain ⟨A5, c5, rfl, _⟩ := own_slice_form own3
    have HTx := HT.same hb9
    clear HT hb9 own3
    have HT := HTx
    clear HTx
    refine (HDN.out A5 (46 + 1) c5 w11 (by decide)).mono ?_
    rintro e w12 ⟨rfl, hb⟩
    have HTx := HT.same hb
    clear HT hb HDN
    have HT := HTx
    clear HTx
    go_upto_region 11 with (first | ((with_reducible refine wpList_plain ?_ ?_); exact rfl; intro KK hKK; refine wp_st_alloc HT 28 (tokCells clm0 (zer 32)) rfl (.agg (tokCells clm0 (zer 32))) (by exact zero_tok) (rfl) (fun g14 W25 HSx => hKK _ _ ?_); clear hKK KK HT; have HT : St w5 noF [⟨g10, 28, tokCells X G⟩, ⟨g12, 28, tokCells clm0 (zer 32)⟩, ⟨g14, 28, tokCells clm0 (zer 32)⟩] W25 := HSx; clear HSx) | ((with_reducible refine wpList_plain ?_ ?_); exact rfl; intro KK hKK; refine wp_st_store HT 2 0 28 (.tmp 14) (.tmp 69) rfl rfl rfl (.agg (tokCells clm0 (zer 32))) rfl (by rw [show Value.cells (.agg (tokCells clm0 (zer 32))) = tokCells clm0 (zer 32) from rfl, tok_size _ _ (length_zer 32)]; exact size_tok) (by rw [Nat.zero_add, show Value.cells (.agg (tokCells clm0 (zer 32))) = tokCells clm0 (zer 32) from rfl, tok_size _ _ (length_zer 32)]; exact Nat.le_refl 37) (by exact one_tok _ _) (tokCells clm0 (zer 32)) (spl_agg _ _ _ rfl rfl) (fun W26 HSx => hKK _ _ ?_); clear hKK KK HT; have HT : St w5 noF [⟨g10, 28, tokCells X G⟩, ⟨g12, 28, tokCells clm0 (zer 32)⟩, ⟨g14, 28, tokCells clm0 (zer 32)⟩] W26 := HSx; clear HSx))
    have HR10 : Hid (Row W26 g10 28 (tokCells X G)) := Lib.hid (HT.row 0 rfl)
    have HR1 : Hid (Row W26 g1 28 (tokCells c tg)) := Lib.hid (HR1x.out.call HT.below)
    have HB12 := Lib.hid (HB5.out.trans (HT.below.mono HB5.out.size))
    clear HT HR1x HBAx HB5
    have h32 : (zer 32).length = 32 := length_zer 32
    have hgl := HGL.out
    have htl := HTL.out
    have HEQ : Hid (decide (X = c ∧ G = tg) = decide (y = 0#8)) := Lib.hid (decide_eq_decide.2 HTURN.out.2)
    have hby : (bd y == 0) = decide (y = 0#8) := by
      by_cases h : y = 0#8
      · subst h; rfl
      · rw [decide_eq_false h]; exact beq_eq_false_iff_ne.2 fun e => h (bd_inj (by rw [e]; rfl))
    obtain ⟨D, hD⟩ : ∃ D, decide (y = 0#8) = D := ⟨_, rfl⟩
    rw [hD] at hby HEQ
    have q1 := fun w => eql_tok X c G tg hgl htl w
    rw [HEQ.out] at q1
    have q2 := fun w => eql_tok X clm0 G (zer 32) hgl h32 w
    clear hD HEQ h32 hgl htl
    obtain ⟨E0 | ⟨E11, hX, hG⟩, _⟩ := HTURN.out
    · subst E0
      clear HTURN q2
      cases D with
      | true =>
        go_wp2_with (first | ((with_reducible refine wplG_row 28 10 g10 28 (tokCells X G) (0, 0) _ ?_ ?_ ?_ Tryd.underlying28 ?_ ?_ ?_); exact rfl; exact rfl; exact HR10.out; exact rfl; exact (by rw [tok_size _ _ HGL.out]; exact size_tok)) | ((with_reducible refine wplG_row 28 3 g1 28 (tokCells c tg) (0, 0) _ ?_ ?_ ?_ Tryd.underlying28 ?_ ?_ ?_); exact rfl; exact rfl; exact HR1.out; exact rfl; exact HTZ.out) | ((with_reducible refine wplG_build0 28 (tokCells clm0 (zer 32)) ?_ built_tok0 ?_); exact rfl))
        refine (tkwakes_any W26).mono ?_
        rintro e w99 ⟨rfl, hb⟩
        go_wp2_with fail
        go_ret
        exact ⟨rfl, HB12.out.trans (hb.mono HB12.out.size)⟩
      | false =>
        go_wp2_with (first | ((with_reducible refine wplG_row 28 10 g10 28 (tokCells X G) (0, 0) _ ?_ ?_ ?_ Tryd.underlying28 ?_ ?_ ?_); exact rfl; exact rfl; exact HR10.out; exact rfl; exact (by rw [tok_size _ _ HGL.out]; exact size_tok)) | ((with_reducible refine wplG_row 28 3 g1 28 (tokCells c tg) (0, 0) _ ?_ ?_ ?_ Tryd.underlying28 ?_ ?_ ?_); exact rfl; exact rfl; exact HR1.out; exact rfl; exact HTZ.out) | ((with_reducible refine wplG_build0 28 (tokCells clm0 (zer 32)) ?_ built_tok0 ?_); exact rfl))
        refine (tkwakes_any W26).mono ?_
        rintro e w99 ⟨rfl, hb⟩
        go_wp2_with fail
        go_ret
        exact ⟨rfl, HB12.out.trans (hb.mono HB12.out.size)⟩
    · subst E11
      subst hX
      subst hG
      rw [decide_eq_true ⟨rfl, rfl⟩] at q2
      clear HTURN
      cases D with
      | true =>
        go_wp2_with (first | ((with_reducible refine wplG_row 28 10 g10 28 (tokCells clm0 (zer 32)) (0, 0) _ ?_ ?_ ?_ Tryd.underlying28 ?_ ?_ ?_); exact rfl; exact rfl; exact HR10.out; exact rfl; exact size_tok) | ((with_reducible refine wplG_row 28 3 g1 28 (tokCells c tg) (0, 0) _ ?_ ?_ ?_ Tryd.underlying28 ?_ ?_ ?_); exact rfl; exact rfl; exact HR1.out; exact rfl; exact HTZ.out) | ((with_reducible refine wplG_build0 28 (tokCells clm0 (zer 32)) ?_ built_tok0 ?_); exact rfl))
        refine (tkwakes_any W26).mono ?_
        rintro e w99 ⟨rfl, hb⟩
        go_wp2_with fail
        go_ret
        exact ⟨rfl, HB12.out.trans (hb.mono HB12.out.size)⟩
      | false =>
        go_wp2_with (first | ((with_reducible refine wplG_row 28 10 g10 28 (tokCells clm0 (zer 32)) (0, 0) _ ?_ ?_ ?_ Tryd.underlying28 ?_ ?_ ?_); exact rfl; exact rfl; exact HR10.out; exact rfl; exact size_tok) | ((with_reducible refine wplG_row 28 3 g1 28 (tokCells c tg) (0, 0) _ ?_ ?_ ?_ Tryd.underlying28 ?_ ?_ ?_); exact rfl; exact rfl; exact HR1.out; exact rfl; exact HTZ.out) | ((with_reducible refine wplG_build0 28 (tokCells clm0 (zer 32)) ?_ built_tok0 ?_); exact rfl))
        refine (tkwakes_any W26).mono ?_
        rintro e w99 ⟨rfl, hb⟩
        go_wp2_with fail
        go_ret
        exact ⟨rfl, HB12.out.trans (hb.mono HB12.out.size)⟩
end Go.Proofs.YteidjbbhhfdcpaaDoor
