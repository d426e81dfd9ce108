/- The statement CrcTurns: its walk. -/
import Derived.Test.YtcgihbjndnlilaaCParts
import Derived.Test.YtcgihbjndnlilaaEqI
import Derived.Test.YtcgihbjndnlilaaOpenTwo
namespace Go.Proofs.Ytcgihbjndnlilaa
open Go Go.RowKit
theorem size_two : (Try.prog.info? 32).map (·.size) = some 2 := by kernel_rfl
theorem eql_two (p q : List (BitVec 8)) (hp : p.length = 2) (hq : q.length = 2) (w : World) : (Op.equalIn 10000 32 (.agg (bs p)) (.agg (bs q))).run Try.prog w = .ok (decide (p = q)) w := equal_bytes _ 2 p q hp hq Try.underlying32 w
theorem split_two (q : List (BitVec 8)) (m : Nat) (hm : m + 1 < q.length) : q = q.take m ++ q.getD m 0 :: q.getD (m + 1) 0 :: q.drop (m + 2) := by
  have h1 : q.getD m 0 = q[m] := by rw [List.getD_eq_getElem?_getD, List.getElem?_eq_getElem (by omega)]; rfl
  have h2 : q.getD (m + 1) 0 = q[m + 1] := by rw [List.getD_eq_getElem?_getD, List.getElem?_eq_getElem hm]; rfl
  rw [h1, h2, List.getElem_cons_drop hm, List.getElem_cons_drop (by omega), List.take_append_drop]
theorem set_two (q : List (BitVec 8)) (m : Nat) (hm : m + 1 < q.length) (x y : BitVec 8) : (q.set m x).set (m + 1) y = q.take m ++ x :: y :: q.drop (m + 2) := by
  apply List.ext_getElem
  · simp; omega
  · intro i h1 h2
    simp only [List.length_set] at h1
    rw [List.getElem_set, List.getElem_set, List.getElem_append]
    by_cases h3 : i < m
    · rw [if_neg (by omega), if_neg (by omega), dif_pos (by simp; omega), List.getElem_take]
    · rw [dif_neg (by simp; omega)]
      simp only [List.length_take, Nat.min_eq_left (show m ≤ q.length by omega)]
      by_cases h4 : i = m
      · subst h4; simp
      · by_cases h5 : i = m + 1
        · subst h5; simp
        · obtain ⟨j, rfl⟩ : ∃ j, i = m + 2 + j := ⟨i - (m + 2), by omega⟩
          rw [if_neg (by omega), if_neg (by omega)]
          simp [show m + 2 + j - m = j + 1 + 1 by omega]
theorem turned_two (q : List (BitVec 8)) (m : Nat) (hm : m + 1 < q.length) (u v : BitVec 8) :
    (hd (crcOf [(q.set m (q.getD m 0 ^^^ u)).set (m + 1) (q.getD (m + 1) 0 ^^^ v)].flatten) == hd (crcOf [q].flatten)) = decide ([u, v] = [0#8, 0#8]) := by
  rw [hd_beq]
  apply decide_eq_decide.2
  have e1 : ([q] : List (List (BitVec 8))).flatten = q := by simp
  have e2 : ([(q.set m (q.getD m 0 ^^^ u)).set (m + 1) (q.getD (m + 1) 0 ^^^ v)] : List (List (BitVec 8))).flatten = q.take m ++ (q.getD m 0 ^^^ u) :: (q.getD (m + 1) 0 ^^^ v) :: q.drop (m + 2) := by simp [set_two q m hm]
  rw [e1, e2]
  have h := crc_turned (q.take m) (q.drop (m + 2)) (q.getD m 0) (q.getD (m + 1) 0) u v 0xffff#16
  rw [← split_two q m hm] at h
  unfold crcOf
  constructor
  · intro e
    have e' := congrArg (fun x => ~~~x) e
    simp only [BitVec.not_not] at e'
    obtain ⟨rfl, rfl⟩ := h.1 e'.symm
    rfl
  · intro e
    injection e with e0 e1
    injection e1 with e1 _
    rw [h.2 ⟨e0, e1⟩]
attribute [local go_sem] xor_bd
set_option maxRecDepth 20000 in
set_option maxHeartbeats 1600000 in
theorem turns_walk (A : Option Addr) (c : Nat) (q : List (BitVec 8)) (at_ : Int) (us : List (BitVec 8)) (w : World) (hS : Slice w (.slice A q.length c) q) (hA : A = none → c = 0) (hm : q.length ≤ maxLen) (_ : (Lit.int .i64 at_).wf = true) (hus : us.length = 2) :
    Calls Try.prog 4 #[.slice A q.length c, .int .i64 at_, .agg (bs us)] w fun e w' => e = .returned (.bool true) ∧ Below w.heap.size w w' := by
  obtain ⟨u0, u1, rfl⟩ : ∃ u0 u1, us = [u0, u1] := by
    match us, hus with
    | [a, b], _ => exact ⟨a, b, rfl⟩
  have HS := Lib.hid hS
  have HM := Lib.hid hm
  have HA := Lib.hid hA
  unfold maxLen at hm
  have hb1 := (Below.refl w.heap.size w).alloc (Nat.le_refl _) (.cells (bs [u0, u1]) 32)
  have rb1 := Row.fresh w 32 (bs [u0, u1])
  clear hS hus hA
  by_cases hbig : q.length < 2 ∨ 3000 < q.length
  · clear rb1
    have hd0 : (decide ((q.length : Int) < (2 : Int)) || decide ((3000 : Int) < (q.length : Int))) = true := by
      rcases hbig with h | h
      · rw [decide_eq_true (by omega)]; rfl
      · rw [decide_eq_true (p := (3000 : Int) < (q.length : Int)) (by omega)]; exact Bool.or_true _
    go_enter Try.func4, Try.ntmps4
    go_wp2_with fail
    all_goals
      refine (cwakes_any _).mono ?_
      rintro e w1 ⟨rfl, hb⟩
      go_wp2_with fail
      go_ret
      exact ⟨rfl, hb1.trans (hb.mono hb1.size)⟩
  · have d0 : decide ((q.length : Int) < (2 : Int)) = false := decide_eq_false (by omega)
    have d1 : decide ((3000 : Int) < (q.length : Int)) = false := decide_eq_false (by omega)
    go_enter Try.func4, Try.ntmps4
    go_wp2_with fail
    refine (mod_at at_ _ (q.length - 1) _ (by omega) (by omega) (by omega)).mono ?_
    rintro e w1 ⟨rfl, rfl⟩
    have hmlt := modK_lt at_ (q.length - 1) (by omega)
    generalize modK at_ (q.length - 1) = m at *
    generalize hW : w.alloc (.cells (bs [u0, u1]) 32) = w1 at *
    clear hW
    have hS2 := (HS.out.below hb1 (Nat.le_refl _)).below ((Below.refl w1.heap.size w1).alloc (Nat.le_refl _) (.cells #[] 5)) (Nat.le_refl _)
    go_wp2_with (first | (at_builtin; refine wpList_append_slice rfl (.tmp 23) (.tmp 24) rfl w1.heap.size _ 0 [] rfl (own_empty w1) A q.length c q rfl hS2 HA.out (by omega) (by simp) ?_; intro kv w4 own1 hb4; simp only [Nat.zero_add, List.nil_append] at own1; clear hS2; obtain ⟨g, cap, cur, rfl, hg, hr, hcc, ht⟩ := own_row own1 (by omega)))
    have hgw : w.heap.size < g := Nat.lt_of_lt_of_le rb1.lt hg
    have hb14 := ((Below.refl w1.heap.size w1).alloc (Nat.le_refl _) (.cells #[] 5)).trans hb4
    have rb4 := rb1.call hb14
    have k0 := row_at hr ht (m := m) (by omega)
    have f0 := hr.free m
    have kb0 : w4.cell? ⟨w.heap.size, 0, none⟩ = some (.int .u8 (bd u0)) := rb4.get rfl
    have hm0 : (0 : Int) ≤ (m : Int) := by omega
    have hm1 : (m : Int) < (q.length : Int) := by omega
    obtain ⟨y0, hy0⟩ : ∃ y, q.getD m 0 = y := ⟨_, rfl⟩
    obtain ⟨cur5, hr5, ht5⟩ := row_put hr ht (m := m) (y0 ^^^ u0)
    have rb5 := rb4.far (p := ⟨g, m, none⟩) (by simp; omega) (.int .u8 (bd (y0 ^^^ u0)))
    have hb5 := (hb1.trans (hb14.mono hb1.size)).setCell (p := ⟨g, m, none⟩) (Nat.le_of_lt hgw) (.int .u8 (bd (y0 ^^^ u0)))
    have HS5 := Lib.hid (HS.out.below hb5 (Nat.le_refl _))
    have hgs5 := hr5.lt
    have hy1 : (q.set m (y0 ^^^ u0)).getD (m + 1) 0 = q.getD (m + 1) 0 := by simp [List.getD_eq_getElem?_getD]
    rw [hy0] at k0
    clear own1 hb4 hr ht rb1 rb4 hb1 hb14 hg
    go_region
    go_wp2_with fail
    generalize w4.setCell ⟨g, m, none⟩ (.int .u8 (bd (y0 ^^^ u0))) = w5 at *
    clear k0 f0 kb0
    have hl5 : (q.set m (y0 ^^^ u0)).length = q.length := List.length_set
    have k0 := row_at hr5 ht5 (m := m + 1) (by omega)
    have f0 := hr5.free (m + 1)
    have kb0 : w5.cell? ⟨w.heap.size, 1, none⟩ = some (.int .u8 (bd u1)) := rb5.get rfl
    have hm2 : (m : Int) + 1 < (q.length : Int) := by omega
    have hm3 : (0 : Int) ≤ (m : Int) + 1 := by omega
    rw [hy1] at k0
    obtain ⟨y1, hy1'⟩ : ∃ y, q.getD (m + 1) 0 = y := ⟨_, rfl⟩
    obtain ⟨cur6, hr6, ht6⟩ := row_put hr5 ht5 (m := m + 1) (y1 ^^^ u1)
    have RB := Lib.hid (rb5.far (p := ⟨g, m + 1, none⟩) (by simp; omega) (.int .u8 (bd (y1 ^^^ u1))))
    have hb6 := hb5.setCell (p := ⟨g, m + 1, none⟩) (Nat.le_of_lt hgw) (.int .u8 (bd (y1 ^^^ u1)))
    have HS6 := Lib.hid (HS.out.below hb6 (Nat.le_refl _))
    have hl6 : ((q.set m (y0 ^^^ u0)).set (m + 1) (y1 ^^^ u1)).length = q.length := by rw [List.length_set, List.length_set]
    have ha6 := row_pre hr6 ht6 (cap := cap) (by omega)
    have htt := turned_two q m (by omega) u0 u1
    rw [hy0, hy1'] at htt
    rw [hy1'] at k0
    clear hr5 ht5 rb5 hb5 HS5 hr6 ht6 hy1 hl5
    obtain ⟨q2, hq2⟩ : ∃ q2, (q.set m (y0 ^^^ u0)).set (m + 1) (y1 ^^^ u1) = q2 := ⟨_, rfl⟩
    rw [hq2] at ha6 hl6 htt
    rw [hl6] at ha6
    have HA6 := Lib.hid ha6
    clear hq2 hy0 hy1' ha6
    go_region
    go_wp2_with fail
    generalize w5.setCell ⟨g, m + 1, none⟩ (.int .u8 (bd (y1 ^^^ u1))) = w6 at *
    clear k0 f0 kb0 hm0 hm1 hm2 hm3
    obtain ⟨R1, h1⟩ : ∃ R, crcOf [q].flatten = R := ⟨_, rfl⟩
    obtain ⟨R2, h2⟩ : ∃ R, crcOf [q2].flatten = R := ⟨_, rfl⟩
    obtain ⟨t, h3⟩ : ∃ t, decide ([u0, u1] = [0#8, 0#8]) = t := ⟨_, rfl⟩
    rw [h1, h2, h3] at htt
    have HZ1 := Lib.hid h1
    have HZ2 := Lib.hid h2
    have HE1 := Lib.hid htt
    have HE2 := Lib.hid h3
    have HM1 := HM
    have HM2 : Hid (q2.length ≤ maxLen) := Lib.hid (by rw [hl6]; exact HM.out)
    clear h1 h2 h3 htt HM
    obtain ⟨n, hn⟩ : ∃ n, q.length = n := ⟨_, rfl⟩
    rw [hn] at HS6 HA6 hm hbig d0 d1 hmlt hl6 hcc ⊢
    clear hn HS
    refine wp_region_vs (w6.heap.size) [is (.slice (some ⟨g, 0, none⟩) n cap), pts [q2], is (.int .u16 (hd R2)), is (.slice A n c), pts [q], is (.int .u16 (hd R1)), is (.bool t), is (.agg (bs [u0, u1])), is (.agg (bs [0#8, 0#8])), is (.bool t), is (.bool true), is (.bool true), is (.bool true), is (.bool true), is (.bool true)] [some 43, some 44, some 45, some 46, some 47, some 48, some 49, some 50, some 51, some 52, some 53, some 54, some 55, some 56, some 6] 15 15 (fun _ => true) rfl rfl rfl (by kernel_rfl) (by kernel_rfl) ?_ ?_ ?_ ?_
    · repeat first | exact stays_nil _ | refine stays_cons (by first | exact is_stays _ _ | exact lit_stays _ _ | exact sl_stays _ _ | exact pts_stays _ _ | exact hnd_stays _ _ | exact any_stays _) ?_
    · repeat first | exact all_end (by decide) | refine all_cons (by first | exact rfl | exact fun _ _ _ h => h) ?_
    · refine all_step rfl (fun a x W hR hout hin => ?_) ?_
      · have e8 : a.tmps[8]? = some (.slice (some ⟨g, 0, none⟩) n cap) := (hout 8 (by kernel_rfl)).trans rfl
        exact does_move rfl e8 ⟨Keeps.refl _ _, rfl⟩
      refine all_step rfl (fun a x W hR hout hin => ?_) ?_
      · have e43 := hin.is 0 43 (by kernel_rfl) (by decide) (by kernel_rfl) _ rfl
        have sa : Slice W (.slice (some ⟨g, 0, none⟩) n cap) q2 := HA6.out.below ((Below.refl w6.heap.size w6).drew.drew.drew.trans hR.below) (Nat.le_refl _)
        clear hin hout
        intro K Q hK
        go_simp
        exact hK _ _ ⟨Keeps.alloc _ _ hR.below.size, parts1 sa⟩
      refine all_step rfl (fun a x W hR hout hin => ?_) ?_
      · obtain ⟨v44, e44, hv44⟩ := hin.get 1 44 (by kernel_rfl) (by decide) (by kernel_rfl)
        clear hin hout
        intro K Q hK
        go_simp
        refine (check_at [q2] _ W hv44 (by simp [maxLen]) (by simpa using HM2.out) R2 HZ2.out).mono ?_
        rintro e W' ⟨rfl, rfl⟩
        exact hK _ _ ⟨Keeps.refl _ _, rfl⟩
      refine all_step rfl (fun a x W hR hout hin => ?_) ?_
      · have e0 : a.tmps[0]? = some (.slice A n c) := (hout 0 (by kernel_rfl)).trans rfl
        exact does_move rfl e0 ⟨Keeps.refl _ _, rfl⟩
      refine all_step rfl (fun a x W hR hout hin => ?_) ?_
      · have e46 := hin.is 3 46 (by kernel_rfl) (by decide) (by kernel_rfl) _ rfl
        have sq : Slice W (.slice A n c) q := HS6.out.below ((Below.refl w6.heap.size w6).drew.drew.drew.trans hR.below) (Nat.le_refl _)
        clear hin hout
        intro K Q hK
        go_simp
        exact hK _ _ ⟨Keeps.alloc _ _ hR.below.size, parts1 sq⟩
      refine all_step rfl (fun a x W hR hout hin => ?_) ?_
      · obtain ⟨v47, e47, hv47⟩ := hin.get 4 47 (by kernel_rfl) (by decide) (by kernel_rfl)
        clear hin hout
        intro K Q hK
        go_simp
        refine (check_at [q] _ W hv47 (by simp [maxLen]) (by simpa using HM1.out) R1 HZ1.out).mono ?_
        rintro e W' ⟨rfl, rfl⟩
        exact hK _ _ ⟨Keeps.refl _ _, rfl⟩
      refine all_step rfl (fun a x W hR hout hin => ?_) ?_
      · have e45 := hin.is 2 45 (by kernel_rfl) (by decide) (by kernel_rfl) _ rfl
        have e48 := hin.is 5 48 (by kernel_rfl) (by decide) (by kernel_rfl) _ rfl
        have q1 := HE1.out
        clear hin hout
        intro K Q hK
        go_simp
        exact hK _ _ ⟨Keeps.refl _ _, rfl⟩
      refine all_step rfl (fun a x W hR hout hin => ?_) ?_
      · have e5 : a.tmps[5]? = some (.pointer (some ⟨w.heap.size, 0, none⟩)) := (hout 5 (by kernel_rfl)).trans rfl
        clear hin hout
        intro K Q hK
        refine wp_load_mid 32 (.tmp 5) rfl w.heap.size 0 (eval_of_get e5) (bs [u0, u1]).toList _ (fun j u hu => hR.cell (a := ⟨w.heap.size, 0 + j, none⟩) (by rw [Nat.zero_add, RB.out.drew.drew.drew.cell]; simpa using hu)) Try.underlying32 rfl size_two ?_
        exact hK _ _ ⟨Keeps.refl _ _, by simp [Vs, is]⟩
      refine all_step rfl (fun a x W hR hout hin => ?_) ?_
      · clear hin hout
        intro K Q hK
        go_simp
        exact hK _ _ ⟨Keeps.refl _ _, rfl⟩
      refine all_step rfl (fun a x W hR hout hin => ?_) ?_
      · have e50 := hin.is 7 50 (by kernel_rfl) (by decide) (by kernel_rfl) _ rfl
        have e51 := hin.is 8 51 (by kernel_rfl) (by decide) (by kernel_rfl) _ rfl
        have q1 := eql_two [u0, u1] [0#8, 0#8] rfl rfl W
        rw [HE2.out] at q1
        clear hin hout
        intro K Q hK
        go_simp
        exact hK _ _ ⟨Keeps.refl _ _, rfl⟩
      refine all_step rfl (fun a x W hR hout hin => ?_) ?_
      · have e49 := hin.is 6 49 (by kernel_rfl) (by decide) (by kernel_rfl) _ rfl
        have e52 := hin.is 9 52 (by kernel_rfl) (by decide) (by kernel_rfl) _ rfl
        have q1 : (t == t) = true := beq_self_eq_true t
        clear hin hout
        intro K Q hK
        go_simp
        exact hK _ _ ⟨Keeps.refl _ _, rfl⟩
      refine all_step rfl (fun a x W hR hout hin => ?_) ?_
      · have e53 := hin.is 10 53 (by kernel_rfl) (by decide) (by kernel_rfl) _ rfl
        exact does_move rfl e53 ⟨Keeps.refl _ _, rfl⟩
      refine all_step rfl (fun a x W hR hout hin => ?_) ?_
      · clear hin hout
        intro K Q hK
        go_simp
        refine (cwakes_any W).mono ?_
        rintro e W' ⟨rfl, hb⟩
        exact hK _ _ ⟨Keeps.call hb hR.below.size, rfl⟩
      refine all_step rfl (fun a x W hR hout hin => ?_) ?_
      · have e54 := hin.is 11 54 (by kernel_rfl) (by decide) (by kernel_rfl) _ rfl
        have e55 := hin.is 12 55 (by kernel_rfl) (by decide) (by kernel_rfl) _ rfl
        exact does_pick rfl e54 ⟨Keeps.refl _ _, eval_of_get e55⟩
      refine all_step rfl (fun a x W hR hout hin => ?_) ?_
      · have e56 := hin.is 13 56 (by kernel_rfl) (by decide) (by kernel_rfl) _ rfl
        exact does_assign rfl e56 ⟨Keeps.refl _ _, rfl⟩
      exact all_end (by decide)
    · intro x W hKW hV
      have h14 : x 14 = .bool true := hV 14 (by decide)
      clear hV
      simp only [putL, Act.put, List.setIfInBounds_toArray, List.set_cons_succ, List.set_cons_zero, h14]
      refine wpAnyH_done (by kernel_rfl) ?_ _
      have hbW := hb6.trans ((Below.refl w.heap.size w6).drew.drew.drew.trans (hKW.below.mono hb6.size))
      clear hKW h14
      go_wp2_with fail
      go_ret
      exact ⟨rfl, hbW⟩
end Go.Proofs.Ytcgihbjndnlilaa
