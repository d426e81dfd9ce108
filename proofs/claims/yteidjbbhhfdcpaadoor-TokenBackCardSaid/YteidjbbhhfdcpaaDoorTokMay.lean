/- The program's token: may there be such a claim. -/
import Derived.Test.YteidjbbhhfdcpaaDoorTokSpec
import Derived.Test.YteidjbbhhfdcpaaDoorNamesPrg2
set_option maxRecDepth 4000
namespace Go.Proofs.YteidjbbhhfdcpaaDoor
open Go Go.RowKit
attribute [local go_sem] strB_size
set_option maxHeartbeats 1600000 in
theorem maybe_any (c : Clm) (w : World) (hm : c.n.length ≤ maxLen) : Calls Tryd.prog 15 #[.agg (clmCells c)] w fun e w' => e = .returned (.bool (mayC c)) ∧ Below w.heap.size w w' := by
  have HM := Lib.hid hm
  have HG : Hid (∀ W : World, Calls Tryd.prog 25 #[.slice (some ⟨W.heap.size, 0, none⟩) 1 1] (W.alloc (.cells #[.string (strB c.n)] 9)) fun e w' => e = .returned (.bool (goodN c.n)) ∧ Below W.heap.size W w') := Lib.hid fun W => by
    refine (good_any [c.n] _ _ (strs1 W c.n hm 9) (by unfold maxLen; simp)).mono ?_
    rintro e w' ⟨rfl, hb⟩
    exact ⟨by unfold goodNs; simp, ((Below.refl W.heap.size W).alloc (Nat.le_refl _) _).trans (hb.mono (by simp))⟩
  have HTRUE := Lib.hid (@may_true c)
  have HFP := Lib.hid (@may_p c)
  have HFN := Lib.hid (@may_n c)
  have HFR := Lib.hid (@may_r c)
  obtain ⟨G, hG⟩ : ∃ G, mayC c = G := ⟨_, rfl⟩
  rw [hG] at HTRUE HFP HFN HFR ⊢
  clear hm hG
  have HS := St.nil w noF
  go_enter Tryd.func15, Tryd.ntmps15
  go_upto_region 1 with (first | ((with_reducible refine wpList_plain ?_ ?_); exact rfl; intro KK hKK; refine wp_st_box HS 24 (.tmp 0) rfl _ rfl (clmCells c) (rfl) (fun g1 W1 HSx => hKK _ _ ?_); clear hKK KK HS; have HS : St w noF [⟨g1, 24, clmCells c⟩] W1 := HSx; clear HSx))
  have c0 : W1.cell? ⟨g1, 0, none⟩ = some (.int .i64 c.p) := (HS.row 0 rfl).get rfl
  have c1 : W1.cell? ⟨g1, 1, none⟩ = some (.string (strB c.n)) := (HS.row 0 rfl).get rfl
  have c2 : W1.cell? ⟨g1, 2, none⟩ = some (.int .i64 c.r) := (HS.row 0 rfl).get rfl
  obtain ⟨p, hp⟩ : ∃ p, c.p = p := ⟨_, rfl⟩
  obtain ⟨r, hr⟩ : ∃ r, c.r = r := ⟨_, rfl⟩
  obtain ⟨q, hq⟩ : ∃ q, c.n = q := ⟨_, rfl⟩
  rw [hp] at c0 HTRUE HFP
  rw [hr] at c2 HTRUE HFR
  rw [hq] at c1 HG HTRUE HFN
  clear hp hr hq HM
  have HBW := Lib.hid HS.below
  have HLT : Hid (g1 < W1.heap.size) := Lib.hid (HS.row 0 rfl).lt
  clear HS
  by_cases h0 : p < 0
  · have d0 : decide (0 ≤ p) = false := decide_eq_false (by omega)
    have hG : G = false := HFP.out (by omega)
    go_wp2_with fail
    go_ret
    first | exact ⟨rfl, HBW.out⟩ | (rw [hG]; exact ⟨rfl, HBW.out⟩)
  have d0 : decide (0 ≤ p) = true := decide_eq_true (by omega)
  by_cases h1 : 4 ≤ p
  · have d1 : decide (p < 4) = false := decide_eq_false (by omega)
    have hG : G = false := HFP.out (by omega)
    go_wp2_with fail
    go_ret
    first | exact ⟨rfl, HBW.out⟩ | (rw [hG]; exact ⟨rfl, HBW.out⟩)
  have d1 : decide (p < 4) = true := decide_eq_true (by omega)
  by_cases hn : q = []
  · subst hn
    clear HG
    have q0 : ((strB []).toList == (⟨#[]⟩ : ByteArray).toList) = true := by rw [str_beq0]; rfl
    have q1 : (strB []).toList.isEmpty = true := by rw [str_emp]; rfl
    have q2 : (strB []).toList = [] := by rw [str_nil]
    by_cases h2 : r < 1
    · have d2 : decide (1 ≤ r) = false := decide_eq_false (by omega)
      have hG : G = false := HFR.out (by omega)
      go_wp2_with fail
      go_ret
      first | exact ⟨rfl, HBW.out⟩ | (rw [hG]; exact ⟨rfl, HBW.out⟩)
    have d2 : decide (1 ≤ r) = true := decide_eq_true (by omega)
    by_cases h3 : 3 < r
    · have d3 : decide (r ≤ 3) = false := decide_eq_false (by omega)
      have hG : G = false := HFR.out (by omega)
      go_wp2_with fail
      go_ret
      first | exact ⟨rfl, HBW.out⟩ | (rw [hG]; exact ⟨rfl, HBW.out⟩)
    have d3 : decide (r ≤ 3) = true := decide_eq_true (by omega)
    have hG : G = true := HTRUE.out (by omega) (by omega) (.inl rfl) (by omega) (by omega)
    go_wp2_with fail
    go_ret
    first | exact ⟨rfl, HBW.out⟩ | (rw [hG]; exact ⟨rfl, HBW.out⟩)
  · have q0 : ((strB q).toList == (⟨#[]⟩ : ByteArray).toList) = false := by rw [str_beq0, decide_eq_false hn]
    have q1 : (strB q).toList.isEmpty = false := by rw [str_emp, decide_eq_false hn]
    have q2 : ¬ (strB q).toList = [] := by rw [str_nil]; exact hn
    cases hg : goodN q with
    | false =>
      have hG : G = false := HFN.out hn hg
      rw [hg] at HG
      go_wp2_with fail
      refine (HG.out _).mono ?_
      rintro e w1 ⟨rfl, hb⟩
      go_wp2_with fail
      go_ret
      first | exact ⟨rfl, HBW.out.trans (hb.mono HBW.out.size)⟩ | (rw [hG]; exact ⟨rfl, HBW.out.trans (hb.mono HBW.out.size)⟩)
    | true =>
      have HGG := Lib.hid hg
      rw [hg] at HG
      clear hg hn
      by_cases h2 : r < 1
      · have d2 : decide (1 ≤ r) = false := decide_eq_false (by omega)
        have hG : G = false := HFR.out (by omega)
        go_wp2_with fail
        refine (HG.out _).mono ?_
        rintro e w1 ⟨rfl, hb⟩
        have HB1 := Lib.hid (HBW.out.trans (hb.mono HBW.out.size))
        have c2' : w1.cell? ⟨g1, 2, none⟩ = some (.int .i64 r) := (hb.cell (p := ⟨g1, 2, none⟩) (HLT.out)).trans c2
        clear hb
        go_wp2_with fail
        go_ret
        first | exact ⟨rfl, HB1.out⟩ | (rw [hG]; exact ⟨rfl, HB1.out⟩)
      have d2 : decide (1 ≤ r) = true := decide_eq_true (by omega)
      by_cases h3 : 3 < r
      · have d3 : decide (r ≤ 3) = false := decide_eq_false (by omega)
        have hG : G = false := HFR.out (by omega)
        go_wp2_with fail
        refine (HG.out _).mono ?_
        rintro e w1 ⟨rfl, hb⟩
        have HB1 := Lib.hid (HBW.out.trans (hb.mono HBW.out.size))
        have c2' : w1.cell? ⟨g1, 2, none⟩ = some (.int .i64 r) := (hb.cell (p := ⟨g1, 2, none⟩) (HLT.out)).trans c2
        clear hb
        go_wp2_with fail
        go_ret
        first | exact ⟨rfl, HB1.out⟩ | (rw [hG]; exact ⟨rfl, HB1.out⟩)
      have d3 : decide (r ≤ 3) = true := decide_eq_true (by omega)
      have hG : G = true := HTRUE.out (by omega) (by omega) (.inr HGG.out) (by omega) (by omega)
      go_wp2_with fail
      refine (HG.out _).mono ?_
      rintro e w1 ⟨rfl, hb⟩
      have HB1 := Lib.hid (HBW.out.trans (hb.mono HBW.out.size))
      have c2' : w1.cell? ⟨g1, 2, none⟩ = some (.int .i64 r) := (hb.cell (p := ⟨g1, 2, none⟩) (HLT.out)).trans c2
      clear hb
      go_wp2_with fail
      go_ret
      first | exact ⟨rfl, HB1.out⟩ | (rw [hG]; exact ⟨rfl, HB1.out⟩)
end Go.Proofs.YteidjbbhhfdcpaaDoor
