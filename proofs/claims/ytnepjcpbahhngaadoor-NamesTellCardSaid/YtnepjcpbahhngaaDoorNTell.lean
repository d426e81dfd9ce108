/- The statement NamesTell: its walk. -/
import Derived.Test.YtnepjcpbahhngaaDoorNBack
set_option maxRecDepth 4000
namespace Go.Proofs.YtnepjcpbahhngaaDoor
open Go Go.RowKit
set_option maxRecDepth 20000 in
set_option maxHeartbeats 3200000 in
theorem ntell_walk (v : Value) (l : List (List (BitVec 8))) (q b : List (BitVec 8)) (w : World) (hv : Strs w v l) (hlm : l.length ≤ maxLen) (hqm : q.length ≤ maxLen) (hl : b.length = 4) :
    Calls Tryd.prog 3 #[v, .string (strB q), .agg (bs b)] w fun e w' => e = .returned (.bool true) ∧ Below w.heap.size w w' := by
  have HL := Lib.hid hl
  clear hl
  obtain ⟨A, c, rfl⟩ : ∃ A c, v = .slice A l.length c := by obtain ⟨A, c, h, _⟩ := hv; exact ⟨A, c, h⟩
  obtain ⟨n, hn⟩ : ∃ n, l.length = n := ⟨_, rfl⟩
  obtain ⟨m, hm⟩ : ∃ m, q.length = m := ⟨_, rfl⟩
  have hsz : (strB q).size = m := by rw [strB_size, hm]
  have HQM := Lib.hid hqm
  have HN := Lib.hid hn
  have HML := Lib.hid hm
  have HLM := Lib.hid hlm
  rw [hn] at hv ⊢
  have HV := Lib.hid hv
  clear hn hv hlm hm hqm
  have HS := St.nil w noF
  have HW := Lib.hid nwakes_any
  go_enter Tryd.func3, Tryd.ntmps3
  go_upto_region 1 with (first | ((with_reducible refine wpList_plain ?_ ?_); exact rfl; intro KK hKK; refine wp_st_box HS 23 (.tmp 2) rfl _ rfl (bs b) (rfl) (fun g5 W1 HSx => hKK _ _ ?_); clear hKK KK HS; have HS : St w noF [⟨g5, 23, bs b⟩] W1 := HSx; clear HSx))
  have C := Lib.hid (nfair_any l _ W1 (HV.out.below HS.below (Nat.le_refl _)) HLM.out)
  go_wp2_with fail
  refine C.out.mono ?_
  rintro e w1 ⟨rfl, rfl⟩
  clear C
  cases hf : fairN l with
  | false =>
    have HB := Lib.hid HS.below
    clear HS
    go_wp2_with fail
    refine (HW.out _).mono ?_
    rintro e w2 ⟨rfl, hb2⟩
    go_wp2_with fail
    go_ret
    exact ⟨rfl, HB.out.trans (hb2.mono HB.out.size)⟩
  | true =>
    have HF := Lib.hid (fair_of hf)
    clear hf
    by_cases h200 : 200 < m
    · have hd : decide ((200 : Int) < (m : Int)) = true := decide_eq_true (by omega)
      have HB := Lib.hid HS.below
      clear HS
      go_wp2_with fail
      refine (HW.out _).mono ?_
      rintro e w2 ⟨rfl, hb2⟩
      go_wp2_with fail
      go_ret
      exact ⟨rfl, HB.out.trans (hb2.mono HB.out.size)⟩
    · have hd : decide ((200 : Int) < (m : Int)) = false := decide_eq_false (by omega)
      have CC := Lib.hid (fun W => cut_any b W HL.out)
      have CR := Lib.hid (fun W => refcutn_any b W HL.out)
      obtain ⟨⟨t, ok⟩, hz⟩ : ∃ z, cutN b = z := ⟨_, rfl⟩
      rw [hz] at CC CR
      clear hz h200
      simp only at CC CR
      go_wp2_with (first | ((with_reducible refine wpList_plain ?_ ?_); exact rfl; intro KK hKK; refine wp_st_load HS 0 0 23 (.tmp 5) rfl rfl rfl (bs b) (slab_whole _) _ Tryd.underlying23 rfl (by rw [size_bs, HL.out]; exact size_b4) (hKK _ _ ?_); clear hKK KK))
      refine (CC.out _).mono ?_
      rintro e w2 ⟨rfl, hb2⟩
      have HS2 : St w noF [⟨g5, 23, bs b⟩] w2 := HS.same hb2
      clear HS hb2 CC hd
      have HS := HS2
      clear HS2
      go_wp2_with (first | ((with_reducible refine wpList_plain ?_ ?_); exact rfl; intro KK hKK; refine wp_st_load HS 0 0 23 (.tmp 5) rfl rfl rfl (bs b) (slab_whole _) _ Tryd.underlying23 rfl (by rw [size_bs, HL.out]; exact size_b4) (hKK _ _ ?_); clear hKK KK))
      refine (CR.out _).mono ?_
      rintro e w3 ⟨rfl, hb3⟩
      have HS3 : St w noF [⟨g5, 23, bs b⟩] w3 := HS.same hb3
      clear HS hb3 CR
      have HS := HS3
      clear HS3
      have hnz := nm_zero
      go_upto_region 5 with (first | ((with_reducible refine wpList_plain ?_ ?_); exact rfl; intro KK hKK; refine wp_st_alloc HS 29 (nmC [] false) rfl (.agg (nmC [] false)) (by kernel_rfl) (nm_zero) (fun g9 W21 HSx => hKK _ _ ?_); clear hKK KK HS; have HS : St w noF [⟨g5, 23, bs b⟩, ⟨g9, 29, nmC [] false⟩] W21 := HSx; clear HSx) | ((with_reducible refine wpList_plain ?_ ?_); exact rfl; intro KK hKK; refine wp_st_store HS 1 0 29 (.tmp 9) (.tmp 25) rfl rfl rfl (.agg (nmC t ok)) rfl (size_nm) (Nat.le_of_eq rfl) (one_nm _ _) (nmC t ok) (spl_agg _ _ _ rfl rfl) (fun W22 HSx => hKK _ _ ?_); clear hKK KK HS; have HS : St w noF [⟨g5, 23, bs b⟩, ⟨g9, 29, nmC t ok⟩] W22 := HSx; clear HSx))
      clear hnz
      have HSA : St w noF [⟨g5, 23, bs b⟩, ⟨g9, 29, nmC t ok⟩] (W22.alloc (.cells #[] 9)) := HS.same (Same.alloc _ _)
      have HVA := Lib.hid (HV.out.below HSA.below (Nat.le_refl _))
      have hown := own_strs0 W22
      have CG := Lib.hid (fun v' W' (h : Strs W' v' l) => good_any l v' W' h HLM.out)
      have CG2 := Lib.hid (fun v' W' (h : Strs W' v' l) => refgoodn_any l v' W' h HLM.out)
      have e1 : goodNs [q] = goodN q := by unfold goodNs; simp
      have CH := Lib.hid (fun v' W' (h : Strs W' v' [q]) => good_any [q] v' W' h (by unfold maxLen; simp))
      have CH2 := Lib.hid (fun v' W' (h : Strs W' v' [q]) => refgoodn_any [q] v' W' h (by unfold maxLen; simp))
      rw [e1] at CH CH2
      clear e1
      generalize goodNs l = G at *
      generalize goodN q = H at *
      have hG : (G == G) = true := beq_self_eq_true G
      have hH : (H == H) = true := beq_self_eq_true H
      have hO : (ok == ok) = true := beq_self_eq_true ok
      have hT : ((strB t).toList == (strB t).toList) = true := beq_self_eq_true _
      have hEQ := fun W => neq_b4 (padN q) (padN q) (length_padN q) (length_padN q) W
      simp only [decide_true] at hEQ
      have CP := Lib.hid (fun W' => pad_any q W')
      have CP2 := Lib.hid (fun W' => refpad_any q W' HQM.out)
      generalize padN q = P at *
      have HSIZE : Hid (W22.heap.size ≤ (W22.alloc (.cells #[] 9)).heap.size) := Lib.hid (by simp)
      go_wp2_with (refine wpList_append_strs rfl _ _ rfl W22.heap.size _ [] rfl hown _ l rfl HVA.out (by have := HF.out.1; simp; omega) HSIZE.out ?_; intro v4 w4 hown4 hb4)
      have HS4 : St w noF [⟨g5, 23, bs b⟩, ⟨g9, 29, nmC t ok⟩] w4 := HS.same (((Below.refl W22.heap.size W22).alloc (Nat.le_refl _) (.cells #[] 9)).trans hb4)
      have HV4 := Lib.hid (own_strs (l := l) hown4 (fun q hq => by have := HF.out.2 q hq; unfold maxLen; omega))
      clear hown hown4 hb4 HSA HVA HS HSIZE
      obtain ⟨u4, hu4⟩ : ∃ u, u = v4 := ⟨_, rfl⟩
      go_wp2_with fail
      refine (CG.out _ _ HV4.out).mono ?_
      rintro e w5 ⟨rfl, hb5⟩
      have HS5 : St w noF [⟨g5, 23, bs b⟩, ⟨g9, 29, nmC t ok⟩] w5 := HS4.same hb5
      clear HS4 hb5 CG
      have HV5 := Lib.hid (HV.out.below HS5.below (Nat.le_refl _))
      go_wp2_with fail
      refine (CG2.out _ _ HV5.out).mono ?_
      rintro e w6 ⟨rfl, rfl⟩
      clear CG2
      have HQ6 := Lib.hid (strs1 w5 q HQM.out 9)
      go_wp2_with fail
      refine (CH.out _ _ HQ6.out).mono ?_
      rintro e w7 ⟨rfl, hb7⟩
      have HS7 : St w noF [⟨g5, 23, bs b⟩, ⟨g9, 29, nmC t ok⟩] w7 := (HS5.same (Same.alloc _ _)).same hb7
      clear HS5 hb7 CH
      have HQ7 := Lib.hid (strs1 w7 q HQM.out 9)
      go_wp2_with fail
      refine (CH2.out _ _ HQ7.out).mono ?_
      rintro e w8 ⟨rfl, rfl⟩
      clear CH2
      have HS8 := HS7.same (Same.alloc w7 (.cells #[.string (strB q)] 9))
      clear HS7
      generalize (w7.alloc (.cells #[.string (strB q)] 9)) = w8 at *
      go_wp2_with fail
      refine (CP.out _).mono ?_
      rintro e w9 ⟨rfl, hb9⟩
      have HS9 : St w noF [⟨g5, 23, bs b⟩, ⟨g9, 29, nmC t ok⟩] w9 := HS8.same hb9
      clear HS8 hb9 CP
      go_wp2_with fail
      refine (CP2.out _).mono ?_
      rintro e w10 ⟨rfl, hb10⟩
      have HS := HS9.same hb10
      clear HS9 hb10 CP2
      have c90 : w10.cell? ⟨g9, 0, none⟩ = some (.string (strB t)) := (HS.row 1 rfl).get rfl
      have c91 : w10.cell? ⟨g9, 1, none⟩ = some (.bool ok) := (HS.row 1 rfl).get rfl
      have HB := Lib.hid HS.below
      clear HS
      go_wp2_with fail
      refine (HW.out _).mono ?_
      rintro e w11 ⟨rfl, hb11⟩
      go_wp2_with fail
      go_ret
      exact ⟨rfl, HB.out.trans (hb11.mono HB.out.size)⟩
end Go.Proofs.YtnepjcpbahhngaaDoor
