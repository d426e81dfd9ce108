/- The statement CrcChecks: its walk. -/
import Derived.Test.YtcgihbjndnlilaaCrcWakes
import Derived.Test.YtcgihbjndnlilaaCrcRef
import Derived.Test.YtcgihbjndnlilaaCopy
import Derived.Test.YtcgihbjndnlilaaOpenHalf
namespace Go.Proofs.Ytcgihbjndnlilaa
open Go Go.RowKit
set_option maxHeartbeats 800000 in
theorem checks_walk (ps : List (List (BitVec 8))) (v : Value) (n : Int) (w : World) (hv : Hand w v ps) (hm : ps.length ≤ maxLen) (hnil : ∀ n c, v = .slice none n c → c = 0) (wn : (Lit.int .u16 n).wf = true) :
    Calls Try.prog 3 #[v, .int .u16 n] w fun e w' => e = .returned (.bool true) ∧ Below w.heap.size w w' := by
  obtain ⟨x, rfl⟩ := half_of wn
  clear wn
  have HV := Lib.hid hv
  have HM := Lib.hid hm
  obtain ⟨A, c, rfl, hp⟩ := hv
  unfold maxLen at hm
  have HP := Lib.hid hp
  clear hp hnil
  go_enter Try.func3, Try.ntmps3
  go_wp2_with fail
  refine (fair_any ps _ w HV.out HM.out).mono ?_
  rintro e w1 ⟨bf, rfl, hf, rfl⟩
  cases bf with
  | false =>
    go_wp2_with fail
    refine (cwakes_any w1).mono ?_
    rintro e w2 ⟨rfl, hb⟩
    go_wp2_with fail
    go_ret
    exact ⟨rfl, hb⟩
  | true =>
    obtain ⟨hn60, hM⟩ := hf rfl
    clear hf
    have HQ : Hid (∀ q ∈ ps, q.length ≤ 3000) := Lib.hid fun q hq => Nat.le_trans (mem_flat ps q hq) hM
    have HQM : Hid (∀ q ∈ ps, q.length ≤ maxLen) := Lib.hid fun q hq => Nat.le_trans (HQ.out q hq) (by decide)
    have hb0 := (Below.refl w1.heap.size w1).alloc (Nat.le_refl _) (.cells #[] 5)
    by_cases hne : ps.length = 0
    · have h00 : ¬ (0 : Int) < (ps.length : Int) := by omega
      have HV0 := HV
      rw [hne] at HV0
      have HSb : Hid (Slice (w1.alloc (.cells #[] 5)) (.slice (some ⟨w1.heap.size, 0, none⟩) 0 0) []) := Lib.hid ⟨_, 0, rfl, by simp, fun h => absurd rfl h⟩
      have hqb : ([] : List (BitVec 8)).length ≤ 3000 := by decide
      go_wp2_with fail
      clear HV hne h00
      have HV := HV0
      clear HV0
      generalize hW : w1.alloc (.cells #[] 5) = W at *
      clear hW
      refine (copy_any ps _ W (HV.out.below hb0 (Nat.le_refl _)) hn60 HQ.out).mono ?_
      rintro e w2 ⟨v2, rfl, hO⟩
      have HP2 := Lib.hid hO.parts
      have hb2 : Below W.heap.size W w2 := by obtain ⟨_, _, h, _⟩ := hO; exact h
      obtain ⟨A2, c2, rfl⟩ : ∃ A2 c2, v2 = .slice A2 ps.length c2 := by obtain ⟨_, h, _⟩ := hO; exact own_form h
      have HP3 := Lib.hid (HV.out.parts.below (hb0.trans (hb2.mono hb0.size)) (Nat.le_refl _))
      have HSc := Lib.hid (HSb.out.below hb2 (Nat.le_refl _))
      have hb02 := hb0.trans (hb2.mono hb0.size)
      have HF1 := Lib.hid (check_any ps _ w2 HP2.out HM.out HQM.out)
      have HF2 := Lib.hid (refcheck_any ps _ w2 HP3.out HM.out HQM.out)
      clear hO hb2 hb0 HSb HP2 HP3
      generalize crcOf ps.flatten = R at *
      obtain ⟨S, hSd⟩ : ∃ S, crcMore x [] = S := ⟨_, rfl⟩
      have HX := Lib.hid hSd
      have hS2 := HSc.out.below ((Below.refl w2.heap.size w2).alloc (Nat.le_refl _) (.cells #[] 5)) (Nat.le_refl _)
      clear hSd
      go_wp2_with fail
      refine HF1.out.mono ?_
      rintro e w3 ⟨rfl, rfl⟩
      go_wp2_with fail
      refine HF2.out.mono ?_
      rintro e w3 ⟨rfl, rfl⟩
      clear HF1 HF2
      go_wp2_with (first | (at_builtin; refine wpList_guarded (by rfl) (fun K hK => ?_); refine wp_append_slice (.tmp 25) (.tmp 26) rfl w2.heap.size _ 0 [] rfl (own_empty w2) (some ⟨w1.heap.size, 0, none⟩) 0 0 [] rfl hS2 (fun h => by cases h) (by omega) (by simp) ?_; intro v4 w4 own4 hb4; simp only [Nat.zero_add, List.nil_append] at own4; obtain ⟨A4, c4, rfl⟩ := own_form own4; refine hK _ _ ?_; clear hK K hS2))
      have hb24 := ((Below.refl w2.heap.size w2).alloc (Nat.le_refl _) (.cells #[] 5)).trans hb4
      have HS5 := Lib.hid (HSc.out.below hb24 (Nat.le_refl _))
      refine (more_any x [] _ w4 (own_slice own4) (Nat.le_trans hqb (by decide))).mono ?_
      rintro e w5 ⟨rfl, rfl⟩
      rw [HX.out]
      clear own4 hb4
      go_wp2_with fail
      refine (refmore_any x [] _ w4 HS5.out (Nat.le_trans hqb (by decide))).mono ?_
      rintro e w5 ⟨rfl, rfl⟩
      rw [HX.out]
      go_wp2_with fail
      refine (cwakes_any w4).mono ?_
      rintro e w5 ⟨rfl, hb5⟩
      go_wp2_with fail
      go_ret
      exact ⟨rfl, (hb02.trans (hb24.mono hb02.size)).trans (hb5.mono (Nat.le_trans hb02.size hb24.size))⟩
    · have h00 : (0 : Int) < (ps.length : Int) := by omega
      have hne' : ps ≠ [] := by intro e; subst e; simp at hne
      have h0lt : 0 < ps.length := by omega
      obtain ⟨b, o, rfl, hbl, hc⟩ := HP.out hne'
      obtain ⟨u, hu, Ab, cb, rfl, hSb, hAb, _⟩ := hc 0 ps[0] (List.getElem?_eq_getElem h0lt)
      have hqb := HQ.out ps[0] (List.getElem_mem h0lt)
      rw [Nat.add_zero] at hu
      have hu1 := (hb0.cell (p := ⟨b, o, none⟩) hbl).trans hu
      have HSb := Lib.hid (hSb.below hb0 (Nat.le_refl _))
      have HAb := Lib.hid hAb
      clear hc hu hSb hAb
      generalize ps[0] = q at *
      go_wp2_with fail
      generalize hW : w1.alloc (.cells #[] 5) = W at *
      clear hW
      refine (copy_any ps _ W (HV.out.below hb0 (Nat.le_refl _)) hn60 HQ.out).mono ?_
      rintro e w2 ⟨v2, rfl, hO⟩
      have HP2 := Lib.hid hO.parts
      have hb2 : Below W.heap.size W w2 := by obtain ⟨_, _, h, _⟩ := hO; exact h
      obtain ⟨A2, c2, rfl⟩ : ∃ A2 c2, v2 = .slice A2 ps.length c2 := by obtain ⟨_, h, _⟩ := hO; exact own_form h
      have HP3 := Lib.hid (HV.out.parts.below (hb0.trans (hb2.mono hb0.size)) (Nat.le_refl _))
      have HSc := Lib.hid (HSb.out.below hb2 (Nat.le_refl _))
      have hb02 := hb0.trans (hb2.mono hb0.size)
      have HF1 := Lib.hid (check_any ps _ w2 HP2.out HM.out HQM.out)
      have HF2 := Lib.hid (refcheck_any ps _ w2 HP3.out HM.out HQM.out)
      clear hO hb2 hb0 HSb HP2 HP3
      generalize crcOf ps.flatten = R at *
      obtain ⟨S, hSd⟩ : ∃ S, crcMore x q = S := ⟨_, rfl⟩
      have HX := Lib.hid hSd
      have hS2 := HSc.out.below ((Below.refl w2.heap.size w2).alloc (Nat.le_refl _) (.cells #[] 5)) (Nat.le_refl _)
      clear hSd
      go_wp2_with fail
      refine HF1.out.mono ?_
      rintro e w3 ⟨rfl, rfl⟩
      go_wp2_with fail
      refine HF2.out.mono ?_
      rintro e w3 ⟨rfl, rfl⟩
      clear HF1 HF2
      go_wp2_with (first | (at_builtin; refine wpList_guarded (by rfl) (fun K hK => ?_); refine wp_append_slice (.tmp 25) (.tmp 26) rfl w2.heap.size _ 0 [] rfl (own_empty w2) Ab q.length cb q rfl hS2 HAb.out (by omega) (by simp) ?_; intro v4 w4 own4 hb4; simp only [Nat.zero_add, List.nil_append] at own4; obtain ⟨A4, c4, rfl⟩ := own_form own4; refine hK _ _ ?_; clear hK K hS2))
      have hb24 := ((Below.refl w2.heap.size w2).alloc (Nat.le_refl _) (.cells #[] 5)).trans hb4
      have HS5 := Lib.hid (HSc.out.below hb24 (Nat.le_refl _))
      refine (more_any x q _ w4 (own_slice own4) (Nat.le_trans hqb (by decide))).mono ?_
      rintro e w5 ⟨rfl, rfl⟩
      rw [HX.out]
      clear own4 hb4
      go_wp2_with fail
      refine (refmore_any x q _ w4 HS5.out (Nat.le_trans hqb (by decide))).mono ?_
      rintro e w5 ⟨rfl, rfl⟩
      rw [HX.out]
      go_wp2_with fail
      refine (cwakes_any w4).mono ?_
      rintro e w5 ⟨rfl, hb5⟩
      go_wp2_with fail
      go_ret
      exact ⟨rfl, (hb02.trans (hb24.mono hb02.size)).trans (hb5.mono (Nat.le_trans hb02.size hb24.size))⟩
end Go.Proofs.Ytcgihbjndnlilaa
