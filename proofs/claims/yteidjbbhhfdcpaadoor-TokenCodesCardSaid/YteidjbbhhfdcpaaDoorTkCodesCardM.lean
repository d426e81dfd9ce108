/- TokenCodes, as its tied card: for every token and slice of bytes the call returns true and changes nothing that it was handed. Conditions: those of the row (the tables of runes lie as the program's text lays them, which the card ties to the pruned copy). -/
import Derived.Test.YteidjbbhhfdcpaaDoorMLabel1
import Derived.Test.YteidjbbhhfdcpaaDoorMNode0
/- The statement TokenCodes: its walk. -/
set_option maxRecDepth 4000
namespace Go.Proofs.YteidjbbhhfdcpaaDoor
open Go Go.RowKit
attribute [local go_sem] strB_size
theorem slice_none (w : World) : Slice w (.slice none 0 0) [] := ⟨none, 0, rfl, Nat.le_refl _, fun h => absurd rfl h⟩
/- the bytes of a token and of a claim, the program's and the document's -/
theorem codes_both (c : Clm) (t : List (BitVec 8)) (ht : t.length = 32) (hm : c.n.length ≤ maxLen) : ∃ (P R : List (BitVec 8)) (E : Int),
    (∀ w, Calls Tryd.prog 8 #[.agg (tokCells c t)] w fun e w' => ∃ v, e = .returned (.tuple #[v, .int .i64 E]) ∧ Slice w' v P ∧ Below w.heap.size w w') ∧
    (∀ w, Calls Tryd.prog 9 #[.agg (tokCells c t)] w fun e w' => ∃ v, e = .returned (.tuple #[v, .int .i64 E]) ∧ Slice w' v P ∧ Below w.heap.size w w') ∧
    (∀ w, Calls Tryd.prog 10 #[.agg (clmCells c)] w fun e w' => ∃ v, e = .returned (.tuple #[v, .int .i64 E]) ∧ Slice w' v R ∧ Below w.heap.size w w') ∧
    (∀ w, Calls Tryd.prog 11 #[.agg (clmCells c)] w fun e w' => ∃ v, e = .returned (.tuple #[v, .int .i64 E]) ∧ Slice w' v R ∧ Below w.heap.size w w') := by
  cases hc : mayC c with
  | false =>
    refine ⟨[], [], 11, fun w => (tokenc_bad c t w hm hc).mono ?_, fun w => (rtokenc_bad c t w hm hc).mono ?_, fun w => (claim_bad c w hm hc).mono ?_, fun w => (rclaim_bad c w hm hc).mono ?_⟩
    all_goals
      rintro e w' ⟨rfl, hb⟩
      exact ⟨_, rfl, slice_none w', hb⟩
  | true =>
    refine ⟨clmB c ++ t, clmB c, 0, fun w => (tokenc_good c t w ht hm hc).mono ?_, fun w => (rtokenc_good c t w ht hm hc).mono ?_, fun w => (claim_good c w hm hc).mono ?_, fun w => (rclaim_good c w hm hc).mono ?_⟩
    all_goals
      rintro e w' ⟨v, rfl, ho, hb⟩
      exact ⟨_, rfl, own_slice ho, hb⟩
set_option maxRecDepth 20000 in
set_option maxHeartbeats 3200000 in
theorem tkcodes_walk (c : Clm) (tg : List (BitVec 8)) (A : Option Addr) (cq : Nat) (q : List (BitVec 8)) (w : World) (ht : tg.length = 32) (hm : c.n.length ≤ maxLen) (hq : Slice w (.slice A q.length cq) q) (hA : A = none → cq = 0) (_ : q.length ≤ maxLen) :
    Calls Tryd.prog 3 #[.agg (tokCells c tg), .slice A q.length cq] w fun e w' => e = .returned (.bool true) ∧ Below w.heap.size w w' := by
  have HTS := Lib.hid (tok_size c tg ht)
  have HTZ : Hid ((Tryd.prog.info? 28).map (·.size) = some (tokCells c tg).size) := Lib.hid (by rw [HTS.out]; exact size_tok)
  have HSZ : Hid (((tokCells c tg).toList.drop 0).take (clmCells c).size = (clmCells c).toList) := Lib.hid (tok_clm c tg)
  obtain ⟨P, R, E, c1, c2, c3, c4⟩ := codes_both c tg ht hm
  have HC1 := Lib.hid c1
  have HC2 := Lib.hid c2
  have HC3 := Lib.hid c3
  have HC4 := Lib.hid c4
  have HAN := Lib.hid hA
  obtain ⟨nq, hnq⟩ : ∃ nq, q.length = nq := ⟨_, rfl⟩
  have HNQ := Lib.hid hnq
  rw [hnq] at hq ⊢
  have HQ := Lib.hid hq
  have HDQ : Hid (∀ W B cc, Slice W (.slice B nq cc) q → Calls Tryd.prog 12 #[.slice B nq cc] W fun e w' => e = .returned (.tuple #[.agg (tokCells (decC q) (decG q)), .int .i64 (decT q)]) ∧ Below W.heap.size W w') := Lib.hid (fun W B cc hs => tokdec_any B cc q nq hnq W hs)
  have HDR : Hid (∀ W B cc, Slice W (.slice B nq cc) q → Calls Tryd.prog 13 #[.slice B nq cc] W fun e w' => e = .returned (.tuple #[.agg (tokCells (decC q) (decG q)), .int .i64 (decT q)]) ∧ Below W.heap.size W w') := Lib.hid (fun W B cc hs => rtokdec_any B cc q nq hnq W hs)
  have HGL : Hid ((decG q).length = 32) := Lib.hid (length_decG q)
  generalize decC q = X at *
  generalize decG q = G at *
  generalize decT q = D at *
  obtain ⟨nl, hnl⟩ : ∃ nl, c.n.length = nl := ⟨_, rfl⟩
  clear hm ht hq hnq hA c1 c2 c3 c4
  have HS := St.nil w noF
  by_cases h1 : 100 < nl
  · have d1 : decide (100 < (nl : Int)) = true := decide_eq_true (by omega)
    go_enter Tryd.func3, Tryd.ntmps3
    go_upto_region 1 with (first | ((with_reducible refine wpList_plain ?_ ?_); exact rfl; intro KK hKK; refine wp_st_box HS 28 (.tmp 0) rfl _ rfl (tokCells c tg) (rfl) (fun g2 W1 HSx => hKK _ _ ?_); clear hKK KK HS; have HS : St w noF [⟨g2, 28, tokCells c tg⟩] W1 := HSx; clear HSx))
    have e1 : W1.cell? ⟨g2, 1, none⟩ = some (.string (strB c.n)) := (HS.row 0 rfl).get (tok_get _ _ rfl)
    go_wp2_with fail
    refine (tkwakes_any W1).mono ?_
    rintro e w99 ⟨rfl, hb⟩
    go_wp2_with fail
    go_ret
    exact ⟨rfl, HS.below.trans (hb.mono HS.below.size)⟩
  have d1 : decide (100 < (nl : Int)) = false := decide_eq_false (by omega)
  by_cases h2 : 500 < nq
  · have d2 : decide (500 < (nq : Int)) = true := decide_eq_true (by omega)
    go_enter Tryd.func3, Tryd.ntmps3
    go_upto_region 1 with (first | ((with_reducible refine wpList_plain ?_ ?_); exact rfl; intro KK hKK; refine wp_st_box HS 28 (.tmp 0) rfl _ rfl (tokCells c tg) (rfl) (fun g2 W1 HSx => hKK _ _ ?_); clear hKK KK HS; have HS : St w noF [⟨g2, 28, tokCells c tg⟩] W1 := HSx; clear HSx))
    have e1 : W1.cell? ⟨g2, 1, none⟩ = some (.string (strB c.n)) := (HS.row 0 rfl).get (tok_get _ _ rfl)
    go_wp2_with fail
    refine (tkwakes_any W1).mono ?_
    rintro e w99 ⟨rfl, hb⟩
    go_wp2_with fail
    go_ret
    exact ⟨rfl, HS.below.trans (hb.mono HS.below.size)⟩
  have d2 : decide (500 < (nq : Int)) = false := decide_eq_false (by omega)
  go_enter Tryd.func3, Tryd.ntmps3
  go_upto_region 1 with (first | ((with_reducible refine wpList_plain ?_ ?_); exact rfl; intro KK hKK; refine wp_st_box HS 28 (.tmp 0) rfl _ rfl (tokCells c tg) (rfl) (fun g2 W1 HSx => hKK _ _ ?_); clear hKK KK HS; have HS : St w noF [⟨g2, 28, tokCells c tg⟩] W1 := HSx; clear HSx))
  have e1 : W1.cell? ⟨g2, 1, none⟩ = some (.string (strB c.n)) := (HS.row 0 rfl).get (tok_get _ _ rfl)
  go_upto_region 3 with fail
  have HN5 : Hid (nq ≤ 500) := Lib.hid (by omega)
  clear e1 d1 d2 h1 h2 hnl
  go_wp2_with (first | ((with_reducible refine wpList_plain ?_ ?_); exact rfl; intro KK hKK; refine wp_st_load HS 0 0 28 (.tmp 2) rfl rfl rfl (tokCells c tg) (slab_whole _) _ Tryd.underlying28 rfl (by exact HTZ.out) (hKK _ _ ?_); clear hKK KK))
  refine (HC1.out _).mono ?_
  rintro e w1 ⟨v1, rfl, hi1, hb⟩
  have HI1 := Lib.hid hi1
  have HSx := HS.same hb
  clear HS hb hi1
  have HS := HSx
  clear HSx
  go_wp2_with (first | ((with_reducible refine wpList_plain ?_ ?_); exact rfl; intro KK hKK; refine wp_st_load HS 0 0 28 (.tmp 2) rfl rfl rfl (tokCells c tg) (slab_whole _) _ Tryd.underlying28 rfl (by exact HTZ.out) (hKK _ _ ?_); clear hKK KK))
  refine (HC2.out _).mono ?_
  rintro e w2 ⟨v2, rfl, hi2, hb⟩
  have HI2 := Lib.hid hi2
  have HIx1 := Lib.hid (HI1.out.below hb (Nat.le_refl _))
  clear HI1
  have HI1 := HIx1
  clear HIx1
  have HSx := HS.same hb
  clear HS hb hi2
  have HS := HSx
  clear HSx
  go_wp2_with (first | ((with_reducible refine wpList_plain ?_ ?_); exact rfl; intro KK hKK; refine wp_st_load HS 0 0 24 (.tmp 39) rfl rfl rfl (clmCells c) (HSZ.out) _ Tryd.underlying24 rfl (by exact size_clm) (hKK _ _ ?_); clear hKK KK))
  refine (HC3.out _).mono ?_
  rintro e w3 ⟨v3, rfl, hi3, hb⟩
  have HI3 := Lib.hid hi3
  have HIx1 := Lib.hid (HI1.out.below hb (Nat.le_refl _))
  clear HI1
  have HI1 := HIx1
  clear HIx1
  have HIx2 := Lib.hid (HI2.out.below hb (Nat.le_refl _))
  clear HI2
  have HI2 := HIx2
  clear HIx2
  have HSx := HS.same hb
  clear HS hb hi3
  have HS := HSx
  clear HSx
  go_wp2_with (first | ((with_reducible refine wpList_plain ?_ ?_); exact rfl; intro KK hKK; refine wp_st_load HS 0 0 24 (.tmp 45) rfl rfl rfl (clmCells c) (HSZ.out) _ Tryd.underlying24 rfl (by exact size_clm) (hKK _ _ ?_); clear hKK KK))
  refine (HC4.out _).mono ?_
  rintro e w4 ⟨v4, rfl, hi4, hb⟩
  have HI4 := Lib.hid hi4
  have HIx1 := Lib.hid (HI1.out.below hb (Nat.le_refl _))
  clear HI1
  have HI1 := HIx1
  clear HIx1
  have HIx2 := Lib.hid (HI2.out.below hb (Nat.le_refl _))
  clear HI2
  have HI2 := HIx2
  clear HIx2
  have HIx3 := Lib.hid (HI3.out.below hb (Nat.le_refl _))
  clear HI3
  have HI3 := HIx3
  clear HIx3
  have HSx := HS.same hb
  clear HS hb hi4
  have HS := HSx
  clear HSx
  have HQ4 : Hid (Slice w4 (.slice A nq cq) q) := Lib.hid (HQ.out.below HS.below (Nat.le_refl _))
  have HB4 := Lib.hid HS.below
  clear HS HQ
  have hS2 : Slice (w4.alloc (.cells #[] 5)) (.slice A nq cq) q := HQ4.out.below ((Below.refl w4.heap.size w4).alloc (Nat.le_refl _) _) (Nat.le_refl _)
  have hAn := HAN.out
  have hn5 := HN5.out
  go_wp2_with (at_builtin; refine wpList_append_slice rfl (.tmp 51) (.tmp 52) rfl w4.heap.size _ 0 [] rfl (own_empty w4) A nq cq q rfl hS2 hAn (by omega) (by simp) ?_; intro kv w5 own1 hb4; simp only [Nat.zero_add, List.nil_append] at own1; clear hS2)
  have hb15 := ((Below.refl w4.heap.size w4).alloc (Nat.le_refl _) (.cells #[] 5)).trans hb4
  have HT := (St.nil w4 noF).same hb15
  have hs5 := own_slice (by rw [HNQ.out]; exact own1)
  obtain ⟨A5, c5, rfl, _⟩ := own_slice_form own1
  clear own1 hb4 hb15 hAn hn5
  refine (HDQ.out w5 A5 c5 hs5).mono ?_
  rintro e w7 ⟨rfl, hb⟩
  have HTx := HT.same hb
  clear HT hb hs5
  have HT := HTx
  clear HTx
  go_upto_region 8 with (first | ((with_reducible refine wpList_plain ?_ ?_); exact rfl; intro KK hKK; refine wp_st_alloc HT 28 (tokCells clm0 (zer 32)) rfl (.agg (tokCells clm0 (zer 32))) (by exact zero_tok) (rfl) (fun g13 W21 HSx => hKK _ _ ?_); clear hKK KK HT; have HT : St w4 noF [⟨g13, 28, tokCells clm0 (zer 32)⟩] W21 := HSx; clear HSx) | ((with_reducible refine wpList_plain ?_ ?_); exact rfl; intro KK hKK; refine wp_st_store HT 0 0 28 (.tmp 13) (.tmp 55) rfl rfl rfl (.agg (tokCells X G)) rfl (by rw [show Value.cells (.agg (tokCells X G)) = tokCells X G from rfl, tok_size _ _ HGL.out]; exact size_tok) (by rw [Nat.zero_add, show Value.cells (.agg (tokCells X G)) = tokCells X G from rfl, tok_size _ _ HGL.out, tok_size _ _ (length_zer 32)]; exact Nat.le_refl 37) (by exact one_tok _ _) (tokCells X G) (spl_agg _ _ _ rfl (by rw [tok_size _ _ HGL.out, tok_size _ _ (length_zer 32)])) (fun W22 HSx => hKK _ _ ?_); clear hKK KK HT; have HT : St w4 noF [⟨g13, 28, tokCells X G⟩] W22 := HSx; clear HSx))
  go_wp2_with fail
  refine (HDR.out _ A cq (HQ4.out.below HT.below (Nat.le_refl _))).mono ?_
  rintro e w8 ⟨rfl, hb⟩
  have HTx := HT.same hb
  clear HT hb
  have HT := HTx
  clear HTx
  go_upto_region 9 with (first | ((with_reducible refine wpList_plain ?_ ?_); exact rfl; intro KK hKK; refine wp_st_alloc HT 28 (tokCells clm0 (zer 32)) rfl (.agg (tokCells clm0 (zer 32))) (by exact zero_tok) (rfl) (fun g15 W23 HSx => hKK _ _ ?_); clear hKK KK HT; have HT : St w4 noF [⟨g13, 28, tokCells X G⟩, ⟨g15, 28, tokCells clm0 (zer 32)⟩] W23 := HSx; clear HSx) | ((with_reducible refine wpList_plain ?_ ?_); exact rfl; intro KK hKK; refine wp_st_store HT 1 0 28 (.tmp 15) (.tmp 60) rfl rfl rfl (.agg (tokCells X G)) rfl (by rw [show Value.cells (.agg (tokCells X G)) = tokCells X G from rfl, tok_size _ _ HGL.out]; exact size_tok) (by rw [Nat.zero_add, show Value.cells (.agg (tokCells X G)) = tokCells X G from rfl, tok_size _ _ HGL.out, tok_size _ _ (length_zer 32)]; exact Nat.le_refl 37) (by exact one_tok _ _) (tokCells X G) (spl_agg _ _ _ rfl (by rw [tok_size _ _ HGL.out, tok_size _ _ (length_zer 32)])) (fun W24 HSx => hKK _ _ ?_); clear hKK KK HT; have HT : St w4 noF [⟨g13, 28, tokCells X G⟩, ⟨g15, 28, tokCells X G⟩] W24 := HSx; clear HSx))
  have HR13 : Hid (Row W24 g13 28 (tokCells X G)) := Lib.hid (HT.row 0 rfl)
  have HR15 : Hid (Row W24 g15 28 (tokCells X G)) := Lib.hid (HT.row 1 rfl)
  have HB8 := Lib.hid (HB4.out.trans (HT.below.mono HB4.out.size))
  have q1 := HI1.out.below HT.below (Nat.le_refl _)
  have q2 := HI2.out.below HT.below (Nat.le_refl _)
  have q3 := HI3.out.below HT.below (Nat.le_refl _)
  have q4 := HI4.out.below HT.below (Nat.le_refl _)
  clear HT HI1 HI2 HI3 HI4 HB4
  have K1 := keepb_any v1 v2 P P W24 q1 q2
  have K2 := keepb_any v3 v4 R R W24 q3 q4
  rw [decide_eq_true (rfl : P = P)] at K1
  rw [decide_eq_true (rfl : R = R)] at K2
  have q9 : ∀ w, (Op.equalIn 10000 28 (.agg (tokCells X G)) (.agg (tokCells X G))).run Tryd.prog w = .ok true w := fun w => by
    have := eql_tok X X G G HGL.out HGL.out w
    rwa [decide_eq_true ⟨rfl, rfl⟩] at this
  clear q1 q2 q3 q4
  go_wp2_with fail
  refine K1.mono ?_
  rintro e w9 ⟨rfl, rfl⟩
  clear K1
  go_wp2_with fail
  refine K2.mono ?_
  rintro e w9 ⟨rfl, rfl⟩
  clear K2
  go_wp2_with (first | ((with_reducible refine wplG_row 28 13 g13 28 (tokCells X G) (0, 0) _ ?_ ?_ ?_ Tryd.underlying28 ?_ ?_ ?_); exact rfl; exact rfl; exact HR13.out; exact rfl; exact (by rw [tok_size _ _ HGL.out]; exact size_tok)) | ((with_reducible refine wplG_row 28 15 g15 28 (tokCells X G) (0, 0) _ ?_ ?_ ?_ Tryd.underlying28 ?_ ?_ ?_); exact rfl; exact rfl; exact HR15.out; exact rfl; exact (by rw [tok_size _ _ HGL.out]; exact size_tok)))
  refine (tkwakes_any W24).mono ?_
  rintro e w99 ⟨rfl, hb⟩
  go_wp2_with fail
  go_ret
  exact ⟨rfl, HB8.out.trans (hb.mono HB8.out.size)⟩
end Go.Proofs.YteidjbbhhfdcpaaDoor

/- TokenCodes, as its tied card: for every token and slice of bytes the call returns true and changes nothing that it was handed. Conditions: those of the row (the tables of runes lie as the program's text lays them, which the card ties to the pruned copy). -/
set_option maxRecDepth 4000
namespace Go.Proofs.YteidjbbhhfdcpaaDoor.tokenCodes
open Go Go.ChangeShapes Go.WideShapes Go.ChangeAt Go.RowKit

theorem contract (H : Type) (enc : TypeId × Value → H) (W : World) (base : Nat) (args : Array Value) (ds gs : List (DataW H)) (before : List MemPlace)
    (hval : ∀ (j : Nat) t v, Tryd.f3.params[j]? = some t → args[j]? = some v → Value.okWide Tryd.prog W .any base t v)
    (hW : DataW.Whole enc Tryd.prog Tryd.f3.params.toList Rows.tokenCodesSpec.vars false W args.toList ds gs before) (_ : laidMetH Tryd.prog Rows.tokenCodesRow.laid W) :
    Calls Tryd.prog 3 args W fun e W' => ∃ v, e = .returned v ∧ Rows.tokenCodesSpec.post enc Tryd.prog Tryd.f3 false true false false W args v W' := by
  have hW' := hW
  obtain ⟨p, q, hA0, hV, rfl, _, _⟩ := hW
  have hA : DataW.TrodAll enc Tryd.prog W 0 (fun _ => true) true Tryd.f3.params.toList args.toList ds p := hA0
  rw [Tryd.params3] at hA hval
  obtain ⟨v0, vs0, d0, ds0, p0, q0, hargs, rfl, rfl, h0, r0⟩ := trodAll_cons hA
  obtain ⟨v1, vs1, d1, ds1, p1, q1, rfl, rfl, rfl, h1, r1⟩ := trodAll_cons r0
  obtain ⟨rfl, rfl, rfl⟩ := trodAll_nil r1
  obtain rfl : args = #[v0, v1] := by cases args; simp_all
  obtain ⟨rfl, rfl⟩ := trodVars_none hV
  have hlt0 : ∀ x ∈ p0, x.block < W.heap.size := fun x hx => hW'.lt x (by simp [hx])
  have hlt1 : ∀ x ∈ p1, x.block < W.heap.size := fun x hx => hW'.lt x (by simp [hx])
  obtain ⟨k0, q0, rfl, hq0, hm0⟩ := open_tok (hval 0 28 v0 rfl rfl) h0 hlt0
  obtain ⟨A1, c1, b1, rfl, hS1, hN1, hm1⟩ := open_bytes (hval 1 29 v1 rfl rfl) h1 hlt1
  refine (tkcodes_walk k0 q0 A1 c1 b1 W hq0 hm0 hS1 hN1 hm1).mono fun e W' ⟨he, hb⟩ => ?_
  subst he
  exact ⟨_, rfl, [d0, d1], [], _, [], _, [], hW', trodAll_cons_mk (shut_bool Tryd.underlying4 _) trodAll_mk0, trodAll_cons_mk (Below.trod laidOutT (by kernel_rfl) (of_decide_eq_true (by kernel_rfl)) h0 hb hlt0) (trodAll_cons_mk (Below.trod laidOutT (by kernel_rfl) (of_decide_eq_true (by kernel_rfl)) h1 hb hlt1) trodAll_mk0), rfl, hb.frame _, fun h => by cases h⟩

theorem laid_met (os : Os) : laidMet Tryd.prog Rows.tokenCodesRow.laid ((laidWorld os).forCall (fun _ _ => 0) ⟨#[], #[.agg tok0A, .slice none 0 0], []⟩).memory :=
  laidMet_of_run' 8 (by kernel_rfl) (by kernel_rfl)
theorem reads (os : Os) {H : Type} (enc : TypeId × Value → H) : ∃ places, DataW.whole enc Tryd.prog ((laidWorld os).forCall (fun _ _ => 0) ⟨#[], #[.agg tok0A, .slice none 0 0], []⟩).memory Tryd.f3.params.toList Rows.tokenCodesSpec.vars false #[(Value.agg tok0A), (Value.slice none 0 0)].toList 8 = some ([.agg [.agg [.lit (.int .i64 0), .lit (.string []), .lit (.int .i64 0), .lit (.int .u32 0), .lit (.int .u32 0)], .agg (List.replicate 32 (.lit (.int .u8 0)))], .nil], [], places) :=
  ⟨[], by kernel_rfl⟩

set_option maxRecDepth 100000 in
theorem lifted (os : Os) (started : os.Started) (H : Type) (enc : TypeId × Value → H) (F : Stop.Interp) :
    ReturnsInHanded {} Tryd.checked os 3 .any ((OpenSpec.ofChange Rows.tokenCodesSpec).preRow enc Tryd.prog Tryd.f3 Rows.tokenCodesRow.domain false Rows.tokenCodesRow.laid) (((OpenSpec.ofChange Rows.tokenCodesSpec).at F).post enc Tryd.prog Tryd.f3 false true false false) := by
  obtain ⟨places, hx⟩ := reads os enc
  refine returnsInHanded_of_row (C := Tryd.checked) (s := OpenSpec.ofChange Rows.tokenCodesSpec) ownK started (by kernel_rfl) Tryd.func3
    (witness_row_at (enc := enc) (C := Tryd.checked) false (laidWorld os) #[.agg tok0A, .slice none 0 0] rfl (by kernel_rfl) (by kernel_rfl) (by kernel_rfl)
      (OpenSpec.preRow_of_cond 8 hx (by kernel_rfl) (fun k hk => by cases hk) (by kernel_rfl) (laid_met os))) ?_
  intro W base args ds gs before hval hW _ _ _ hL _ _
  exact contract H enc W base args ds gs before hval hW hL

theorem said : Rows.TokenCodesSaid :=
  OpenClaim.holds_of_cond 3 Tryd.f3 rfl rfl rfl rfl rfl rfl rfl ⟨rfl, rfl, rfl, rfl, rfl⟩ rfl rfl rfl rfl rfl (by kernel_rfl) Tryd.func3 (by kernel_rfl)
    (of_decide_eq_true (by kernel_rfl)) (by unfold Func.isWrapper; first | (rw [if_pos (by decide +kernel)]; kernel_rfl) | (rw [if_neg (by decide +kernel)]; exact ⟨rfl, rfl⟩))
    (fun os started H enc _ F => by rw [OpenClaim.pre_eq_preRow]; exact lifted os started H enc F)

theorem plain (f : FuncId) (fn : Func) (hf : Tryd.pinned.checked.prog.funcNamed Rows.tokenCodesRow.func = some f) (hfn : Tryd.pinned.checked.prog.funcs[f]? = some fn) :
    false = Tryd.pinned.checked.prog.looks [] ∧ ∀ (j : Nat) t, fn.params[j]? = some t → Tryd.pinned.checked.prog.wantsStandIn t = false := by
  obtain rfl : f = 3 := Option.some.inj ((show Tryd.prog.funcNamed Rows.tokenCodesRow.func = some 3 by kernel_rfl).symm.trans hf) |>.symm
  obtain rfl : fn = Tryd.f3 := (Option.some.inj (Tryd.func3.symm.trans hfn)).symm
  refine ⟨by kernel_rfl, fun j t ht => ?_⟩
  rw [Tryd.params3] at ht
  have hm : t = 28 ∨ t = 29 := by simpa using Array.mem_of_getElem? ht
  rcases hm with rfl | rfl
  · exact (show Tryd.prog.wantsStandIn 28 = false by kernel_rfl)
  · exact (show Tryd.prog.wantsStandIn 29 = false by kernel_rfl)

theorem card : Rows.TokenCodesCardSaid :=
  Claim7.holds_tied_plain_at .later [] _ _ _ _ said (fun _ h => by cases h) (by kernel_rfl) (fun _ h => by cases h) tokenCodes_row_tie rfl ⟨rfl, rfl⟩ (by kernel_rfl) rfl plain (by kernel_rfl)
end Go.Proofs.YteidjbbhhfdcpaaDoor.tokenCodes
