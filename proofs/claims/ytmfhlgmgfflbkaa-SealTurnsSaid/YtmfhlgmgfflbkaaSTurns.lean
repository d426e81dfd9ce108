/- The statement SealTurns: its walk. -/
import Derived.Test.YtmfhlgmgfflbkaaSCodes
import Derived.Test.YtmfhlgmgfflbkaaStrB
namespace Go.Proofs.Ytmfhlgmgfflbkaa
open Go Go.RowKit
attribute [local go_sem] xor_bd
theorem mod31 (z : Int) (h : 0 ≤ z) : ∃ K : Nat, K < 31 ∧ z.tmod 31 = (K : Int) := by
  rw [Int.tmod_eq_emod_of_nonneg h]
  exact ⟨(z % 31).toNat, by omega, by omega⟩
theorem drop_pad {m : BitVec 8} {q : List (BitVec 8)} : ((pad30 m q).drop 1).take q.length = q := by
  show (q ++ List.replicate (29 - q.length) 0#8).take q.length = q
  rw [List.take_append_of_le_length (Nat.le_refl _), List.take_length]
theorem row_take {w : World} {g n c : Nat} {t : TypeId} {m : BitVec 8} {q : List (BitVec 8)} (h : Row w g t (bs (pad30 m q))) (hn : q.length = n) (h29 : n ≤ 29) (hc : n ≤ c) : Slice w (.slice (some ⟨g, 1, none⟩) n c) q := by
  have := row_piece h (off := 1) (n := n) (c := c) (by rw [length_pad30 (by omega)]; omega) hc
  rw [← hn, drop_pad, hn] at this
  exact this
set_option maxRecDepth 20000 in
set_option maxHeartbeats 1600000 in
theorem sturns_walk (D : SealOps) (m : BitVec 8) (A : Option Addr) (c : Nat) (q : List (BitVec 8)) (us : List (BitVec 8)) (w : World) (hS : Slice w (.slice A q.length c) q) (hA : A = none → c = 0) (hm : q.length ≤ maxLen) (hus : us.length = 3) :
    Calls Try.prog 4 #[.int .u8 (bd m), .slice A q.length c, .agg (bs us)] w fun e w' => e = .returned (.bool true) ∧ Below w.heap.size w w' := by
  obtain ⟨u0, u1, u2, rfl⟩ : ∃ u0 u1 u2, us = [u0, u1, u2] := by
    match us, hus with
    | [a, b, c], _ => exact ⟨a, b, c, rfl⟩
  have HI : Hid (Item w (.slice A q.length c) q) := Lib.hid ⟨A, c, rfl, hS, hA, hm⟩
  obtain ⟨n, hn⟩ : ∃ n, q.length = n := ⟨_, rfl⟩
  have HN := Lib.hid hn
  rw [hn] at HI ⊢
  have HB0 := Lib.hid ((Below.refl w.heap.size w).alloc (Nat.le_refl _) (.cells (bs [u0, u1, u2]) 40))
  have RB := Lib.hid (Row.fresh w 40 (bs [u0, u1, u2]))
  clear hS hA hm hn hus
  by_cases hbig : 29 < n
  · have hd : decide ((29 : Int) < (n : Int)) = true := decide_eq_true (by omega)
    go_enter Try.func4, Try.ntmps4
    go_wp2_with fail
    refine (swakes_any D _).mono ?_
    rintro e w1 ⟨rfl, hb1⟩
    go_wp2_with fail
    go_ret
    exact ⟨rfl, HB0.out.trans (hb1.mono HB0.out.size)⟩
  by_cases hm0 : m = 0#8
  · have hd : decide ((29 : Int) < (n : Int)) = false := decide_eq_false (by omega)
    have hd2 : (bd m == 0) = true := by rw [bd_zero_iff, decide_eq_true hm0]
    clear hm0
    go_enter Try.func4, Try.ntmps4
    go_wp2_with fail
    refine (swakes_any D _).mono ?_
    rintro e w1 ⟨rfl, hb1⟩
    go_wp2_with fail
    go_ret
    exact ⟨rfl, HB0.out.trans (hb1.mono HB0.out.size)⟩
  have hd : decide ((29 : Int) < (n : Int)) = false := decide_eq_false (by omega)
  have hd2 : (bd m == 0) = false := by rw [bd_zero_iff, decide_eq_false hm0]
  have hn29 : n ≤ 29 := by omega
  have hbad : encBad m q = false := by unfold encBad; rw [HN.out, decide_eq_false hm0, decide_eq_false hbig]; rfl
  have HXL : Hid ((sealedB m q).length = 32) := Lib.hid (length_sealedB (by rw [HN.out]; exact hn29))
  have HOK : Hid (decOk (sealedB m q) = true) := Lib.hid (decOk_sealedB hm0 (by rw [HN.out]; exact hn29))
  have HR : Hid (decR (sealedB m q) = pad30 m q) := Lib.hid (decR_sealedB hm0 (by rw [HN.out]; exact hn29))
  have HRL : Hid ((pad30 m q).length = 30) := Lib.hid (length_pad30 (by rw [HN.out]; exact hn29))
  have HRz : Hid (∀ i, n ≤ i → i < 29 → (pad30 m q).getD (1 + i) 0#8 = 0#8) := Lib.hid (fun i h1 h2 => by
    rw [Nat.add_comm, pad30_get i h2, List.getD_eq_getElem?_getD, List.getElem?_eq_none (by rw [HN.out]; exact h1)]; rfl)
  have HR0 : Hid ((pad30 m q).getD 0 0#8 = m) := Lib.hid rfl
  have HE0 := Lib.hid (encB_good hbad)
  have HE1 := Lib.hid (encE_good hbad)
  clear hm0 hbad hbig
  go_enter Try.func4, Try.ntmps4
  go_upto_region 3 with fail
  obtain ⟨g0, hg0⟩ : ∃ g0, w.heap.size = g0 := ⟨_, rfl⟩
  have HG0 : Hid (w.heap.size ≤ g0) := Lib.hid (Nat.le_of_eq hg0)
  rw [hg0] at RB
  rw [hg0]
  clear hg0 hd hd2
  have HI0 := HI.out.below HB0.out (Nat.le_refl _)
  generalize w.alloc (.cells (bs [u0, u1, u2]) 40) = w0 at *
  have C1 := D.enc m q _ w0 HI0
  rw [HE0.out, HE1.out] at C1
  have HI0' := Lib.hid HI0
  clear HI0 HE0 HE1
  go_wp2_with fail
  refine C1.mono ?_
  rintro e w1 ⟨rfl, hb1⟩
  obtain ⟨X, hX⟩ : ∃ X, sealedB m q = X := ⟨_, rfl⟩
  rw [hX] at HXL HOK HR
  rw [hX]
  have HX := Lib.hid hX
  clear hX C1
  have hz := zeros_blk
  have HB1 := Lib.hid (HB0.out.trans (hb1.mono HB0.out.size))
  have HI1 := Lib.hid ((HI0'.out.below hb1 (Nat.le_refl _)).below (Same.alloc w1 (.cells (bs X) 24)) (Nat.le_refl _))
  have RB1 := Lib.hid ((RB.out.call hb1).alloc (.cells (bs X) 24))
  have R1 := Lib.hid (Row.fresh w1 24 (bs X))
  have HBB1 := Lib.hid (HB1.out.alloc HB1.out.size (.cells (bs X) 24))
  have rr := row_range R1.out (Below.refl _ _) R1.out.lt
  have HL1 : Hid (w.heap.size ≤ w1.heap.size) := Lib.hid HB1.out.size
  clear hb1 HB0 HI0' RB HB1
  go_wp2_with (first | (refine wpList_store_row rfl 24 _ _ rfl w1.heap.size (bs X) rfl rfl 24 _ (Row.fresh _ _ _) (by rw [size_bs, HXL.out]; exact size_blk) (by rw [size_bs, size_bs, length_blk, HXL.out]) (one_bs _) ?_; rw [World.setRow_alloc_new]) | (refine wpList_load_mid rfl 24 _ rfl w1.heap.size 0 rfl (bs X).toList _ rr Try.underlying24 rfl (by rw [len_bs, HXL.out]; exact size_blk) ?_))
  obtain ⟨g7, hg7⟩ : ∃ g7, w1.heap.size = g7 := ⟨_, rfl⟩
  rw [hg7] at R1 HL1
  rw [hg7]
  clear hg7 rr
  have h07 : Hid (g0 ≠ g7) := Lib.hid (by
    intro e; have h1 := RB1.out; rw [e] at h1; unfold Row at h1; have h2 := R1.out; unfold Row at h2; rw [h2] at h1
    injection h1 with h1; injection h1 with h1 _ _; have := congrArg Array.size h1; rw [size_bs, size_bs, HXL.out] at this; cases this)
  generalize w1.alloc (.cells (bs X) 24) = w2 at *
  have C2 := D.dec X w2 HXL.out
  rw [HR.out, show decE X = 0 from decE_yes HOK.out] at C2
  refine C2.mono ?_
  rintro e w3 ⟨rfl, hb3⟩
  obtain ⟨R, hR⟩ : ∃ R, pad30 m q = R := ⟨_, rfl⟩
  have HB3 := Lib.hid (HBB1.out.trans (hb3.mono HBB1.out.size))
  have HI3 := Lib.hid ((HI1.out.below hb3 (Nat.le_refl _)).below (Same.alloc w3 (.cells (bs R) 33)) (Nat.le_refl _))
  have RB3 := Lib.hid ((RB1.out.call hb3).alloc (.cells (bs R) 33))
  have R13 := Lib.hid ((R1.out.call hb3).alloc (.cells (bs R) 33))
  have R3 := Lib.hid (Row.fresh w3 33 (bs R))
  have HBB3 := Lib.hid (HB3.out.alloc HB3.out.size (.cells (bs R) 33))
  have c0 := row_at_bs R3.out (i := 0) (x := bd m) (by have := HRL.out; rw [hR] at this; omega) (by rw [← hR]; exact congrArg bd HR0.out)
  have hsl : Slice (w3.alloc (.cells (bs R) 33)) (.slice (some ⟨w3.heap.size, 1, none⟩) n 29) q := row_take (m := m) (by rw [hR]; exact R3.out) HN.out hn29 hn29
  have CK := keepbytes_any q q _ _ _ hsl HI3.out.slice
  rw [decide_eq_true rfl] at CK
  have hn0 : (0 : Int) ≤ (n : Int) := by omega
  have hn29' : (n : Int) ≤ 29 := by omega
  rw [hR] at HRL HRz HR
  rw [hR]
  clear C2 hb3 HBB1 HI1 RB1 R1 HB3 hsl hR HR0
  go_wp2_with (first | (refine wpList_store_row rfl 33 _ _ rfl w3.heap.size (bs R) rfl rfl 33 _ (Row.fresh _ _ _) (by rw [size_bs, HRL.out]; exact size_sec) (by rw [size_bs, HRL.out]; rfl) (one_bs _) ?_; rw [World.setRow_alloc_new]))
  refine CK.mono ?_
  rintro e w4 ⟨rfl, rfl⟩
  obtain ⟨g9, hg9⟩ : ∃ g9, w3.heap.size = g9 := ⟨_, rfl⟩
  rw [hg9] at R3
  rw [hg9]
  clear hg9 CK c0
  generalize w3.alloc (.cells (bs R) 33) = w4 at *
  go_wp2_with fail
  go_loopw [11] (fun i wr => ∃ k : Nat, k ≤ 29 ∧ n ≤ k ∧ i = .int .i64 k ∧ wr = w4) (fun i _ => 29 - (intOf i).toNat)
  case atStart => exact ⟨n, hn29, Nat.le_refl _, rfl, rfl⟩
  case round =>
    obtain ⟨i, hi, hni, rfl, rfl⟩ := hrel
    by_cases hlt : i < 29
    · have ci := row_at_bs R3.out (i := 1 + i) (x := 0) (by rw [HRL.out]; omega) (by rw [HRz.out i hni hlt]; try rfl)
      have hi0 : (0 : Int) ≤ (i : Int) := by omega
      have hi1 : (i : Int) < 29 := by omega
      go_wp2_with fail
      exact ⟨⟨i + 1, by omega, by omega, by go_num, trivial⟩, by simp [intOf] <;> omega⟩
    · obtain rfl : i = 29 := by omega
      have cb0 := row_at_bs RB3.out (i := 0) (x := bd u0) (by simp) rfl
      have cb1 := row_at_bs RB3.out (i := 1) (x := bd u1) (by simp) rfl
      have hlo := bd_lo u0
      have hhi := bd_hi u0
      obtain ⟨K, hK31, hK⟩ := mod31 (bd u0) hlo
      have hwrap : IntKind.i64.wrap (bd u0) = bd u0 := i64_id _ hlo (by omega)
      have hk0 : (0 : Int) ≤ (K : Int) := by omega
      have hk1 : (K : Int) < 32 := by omega
      obtain ⟨y0, hy0⟩ : ∃ y, X.getD K 0#8 = y := ⟨_, rfl⟩
      have k0 := row_at_bs R13.out (i := K) (x := bd y0) (by rw [HXL.out]; omega) (by rw [hy0])
      have f0 := R13.out.free K
      have HY0 := Lib.hid hy0
      have HK31 := Lib.hid hK31
      clear hlt hi hni hn0 hn29' hy0
      go_wp2_with fail
      clear hK hwrap cb0 hlo hhi
      go_region
      go_wp2_with fail
      have R5 := Lib.hid ((row_set_bs (k := K) R13.out (y0 ^^^ u1)).drew)
      have RB5 := Lib.hid ((RB3.out.far (p := ⟨g7, K, none⟩) h07.out (.int .u8 (bd (y0 ^^^ u1)))).drew)
      have HB5 := Lib.hid ((HBB3.out.setCell (p := ⟨g7, K, none⟩) HL1.out (.int .u8 (bd (y0 ^^^ u1)))).drew)
      clear k0 f0 cb1 RB3 R13 HBB3 R3 HI3
      generalize (wr.setCell ⟨g7, K, none⟩ (.int .u8 (bd (y0 ^^^ u1)))).drew = W5 at *
      obtain ⟨y1, hy1⟩ : ∃ y, X.getD (K + 1) 0#8 = y := ⟨_, rfl⟩
      have hy2 : (X.set K (y0 ^^^ u1)).getD (K + 1) 0#8 = y1 := by rw [← hy1]; simp [List.getD_eq_getElem?_getD]
      have HT : Hid ((X.set K (y0 ^^^ u1)).set (K + 1) (y1 ^^^ u2) = turnedAt X K u1 u2) := Lib.hid (by unfold turnedAt; rw [HY0.out, hy1])
      have k0 := row_at_bs R5.out (i := K + 1) (x := bd y1) (by rw [List.length_set, HXL.out]; omega) (by rw [hy2])
      have f0 := R5.out.free (K + 1)
      have cb2 := row_at_bs RB5.out (i := 2) (x := bd u2) (by simp) rfl
      have hk2 : (K : Int) + 1 < 32 := by omega
      have hk3 : (0 : Int) ≤ (K : Int) + 1 := by omega
      have R6 := Lib.hid (row_set_bs (k := K + 1) R5.out (y1 ^^^ u2))
      rw [HT.out] at R6
      have RB6 := Lib.hid (RB5.out.far (p := ⟨g7, K + 1, none⟩) h07.out (.int .u8 (bd (y1 ^^^ u2))))
      have HB6 := Lib.hid (HB5.out.setCell (p := ⟨g7, K + 1, none⟩) HL1.out (.int .u8 (bd (y1 ^^^ u2))))
      have HTL : Hid ((turnedAt X K u1 u2).length = 32) := Lib.hid (by rw [length_turnedAt, HXL.out])
      have HTD := Lib.hid (decOk_turned HXL.out HOK.out HK31.out u1 u2)
      obtain ⟨T, hT⟩ : ∃ T, turnedAt X K u1 u2 = T := ⟨_, rfl⟩
      rw [hT] at R6 HTL HTD
      have rr6 := row_range R6.out (Below.refl _ _) R6.out.lt
      clear hy1 hy2 HT R5 RB5 HB5 hT HY0
      go_region
      go_wp2_with (refine wpList_load_mid rfl 24 _ rfl g7 0 rfl (bs T).toList _ rr6 Try.underlying24 rfl (by rw [len_bs, HTL.out]; exact size_blk) ?_)
      clear k0 f0 cb2 hk0 hk1 hk2 hk3 rr6 HK31
      generalize W5.setCell ⟨g7, K + 1, none⟩ (.int .u8 (bd (y1 ^^^ u2))) = W6 at *
      have C3 := D.dec T W6.drew HTL.out
      have HRT : Hid ((decR T).length = 30) := Lib.hid (length_decR HTL.out)
      generalize decR T = RT at *
      by_cases h1 : u1 = 0#8
      · have hq1 : (bd u1 == 0) = true := by rw [bd_zero_iff, decide_eq_true h1]
        by_cases h2 : u2 = 0#8
        · have hq2 : (bd u2 == 0) = true := by rw [bd_zero_iff, decide_eq_true h2]
          rw [show decE T = 0 from decE_yes (by rw [HTD.out, decide_eq_true h1, decide_eq_true h2]; rfl)] at C3
          clear h1 h2
          refine C3.mono ?_
          rintro e w8 ⟨rfl, hb8⟩
          have HB8 := Lib.hid (HB6.out.drew.trans (hb8.mono HB6.out.drew.size))
          have RB8 := (RB6.out.drew.call hb8).alloc (.cells (bs RT) 33)
          have cb1 := row_at_bs RB8 (i := 1) (x := bd u1) (by simp) rfl
          have cb2 := row_at_bs RB8 (i := 2) (x := bd u2) (by simp) rfl
          have HBB8 := Lib.hid (HB8.out.alloc HB8.out.size (.cells (bs RT) 33))
          clear C3 hb8 RB8
          go_wp2_with (first | (refine wpList_store_row rfl 33 _ _ rfl w8.heap.size (bs RT) rfl rfl 33 _ (Row.fresh _ _ _) (by rw [size_bs, HRT.out]; exact size_sec) (by rw [size_bs, HRT.out]; rfl) (one_bs _) ?_; rw [World.setRow_alloc_new]))
          refine (swakes_any D _).mono ?_
          rintro e w9 ⟨rfl, hb9⟩
          go_wp2_with fail
          go_ret
          exact ⟨rfl, HBB8.out.trans (hb9.mono HBB8.out.size)⟩
        · have hq2 : (bd u2 == 0) = false := by rw [bd_zero_iff, decide_eq_false h2]
          rw [show decE T = 11 from decE_no (by rw [HTD.out, decide_eq_true h1, decide_eq_false h2]; rfl)] at C3
          clear h1 h2
          refine C3.mono ?_
          rintro e w8 ⟨rfl, hb8⟩
          have HB8 := Lib.hid (HB6.out.drew.trans (hb8.mono HB6.out.drew.size))
          have RB8 := (RB6.out.drew.call hb8).alloc (.cells (bs RT) 33)
          have cb1 := row_at_bs RB8 (i := 1) (x := bd u1) (by simp) rfl
          have cb2 := row_at_bs RB8 (i := 2) (x := bd u2) (by simp) rfl
          have HBB8 := Lib.hid (HB8.out.alloc HB8.out.size (.cells (bs RT) 33))
          clear C3 hb8 RB8
          go_wp2_with (first | (refine wpList_store_row rfl 33 _ _ rfl w8.heap.size (bs RT) rfl rfl 33 _ (Row.fresh _ _ _) (by rw [size_bs, HRT.out]; exact size_sec) (by rw [size_bs, HRT.out]; rfl) (one_bs _) ?_; rw [World.setRow_alloc_new]))
          refine (swakes_any D _).mono ?_
          rintro e w9 ⟨rfl, hb9⟩
          go_wp2_with fail
          go_ret
          exact ⟨rfl, HBB8.out.trans (hb9.mono HBB8.out.size)⟩
      · have hq1 : (bd u1 == 0) = false := by rw [bd_zero_iff, decide_eq_false h1]
        rw [show decE T = 11 from decE_no (by rw [HTD.out, decide_eq_false h1, Bool.false_and])] at C3
        clear h1
        refine C3.mono ?_
        rintro e w8 ⟨rfl, hb8⟩
        have HB8 := Lib.hid (HB6.out.drew.trans (hb8.mono HB6.out.drew.size))
        have RB8 := (RB6.out.drew.call hb8).alloc (.cells (bs RT) 33)
        have cb1 := row_at_bs RB8 (i := 1) (x := bd u1) (by simp) rfl
        have cb2 := row_at_bs RB8 (i := 2) (x := bd u2) (by simp) rfl
        have HBB8 := Lib.hid (HB8.out.alloc HB8.out.size (.cells (bs RT) 33))
        clear C3 hb8 RB8
        go_wp2_with (first | (refine wpList_store_row rfl 33 _ _ rfl w8.heap.size (bs RT) rfl rfl 33 _ (Row.fresh _ _ _) (by rw [size_bs, HRT.out]; exact size_sec) (by rw [size_bs, HRT.out]; rfl) (one_bs _) ?_; rw [World.setRow_alloc_new]))
        refine (swakes_any D _).mono ?_
        rintro e w9 ⟨rfl, hb9⟩
        go_wp2_with fail
        go_ret
        exact ⟨rfl, HBB8.out.trans (hb9.mono HBB8.out.size)⟩
end Go.Proofs.Ytmfhlgmgfflbkaa
