/- The statement SealPlaces: its walk. -/
import Derived.Test.YtmfhlgmgfflbkaaSCodes
namespace Go.Proofs.Ytmfhlgmgfflbkaa
open Go Go.RowKit
attribute [local go_sem] lowb_hd lowb8_hd
def alikeTo (p q : List (BitVec 8)) : Nat → Bool
  | 0 => true
  | k + 1 => alikeTo p q k && (bd (p.getD k 0#8) == bd (q.getD k 0#8))
theorem alikeTo_iff (p q : List (BitVec 8)) : ∀ k, alikeTo p q k = true ↔ ∀ i < k, p.getD i 0#8 = q.getD i 0#8
  | 0 => ⟨fun _ i hi => by omega, fun _ => rfl⟩
  | k + 1 => by
    unfold alikeTo
    rw [Bool.and_eq_true, alikeTo_iff p q k, beq_iff_eq]
    constructor
    · rintro ⟨h1, h2⟩ i hi
      by_cases hk : i = k
      · rw [hk]; exact bd_inj h2
      · exact h1 i (by omega)
    · intro h
      exact ⟨fun i hi => h i (by omega), by rw [h k (by omega)]⟩
theorem alike_sealed {m : BitVec 8} {p q : List (BitVec 8)} (hp : p.length ≤ 29) (hq : q.length ≤ 29) : decide (sealedB m p = sealedB m q) = alikeTo p q 29 := by
  have h1 := sealedB_inj (m := m) hp hq
  have h2 := pad30_eq (m := m) hp hq
  have h3 := alikeTo_iff p q 29
  by_cases h : sealedB m p = sealedB m q
  · rw [decide_eq_true h, h3.2 (h2.1 (h1.1 h))]
  · rw [decide_eq_false h]
    cases ha : alikeTo p q 29 with
    | false => rfl
    | true => exact absurd (h1.2 (h2.2 (h3.1 ha))) h
theorem sealed_tail {m : BitVec 8} {q : List (BitVec 8)} (h : q.length ≤ 29) : (sealedB m q).getD 30 0#8 = (crcOf (pad30 m q)).setWidth 8 ∧ (sealedB m q).getD 31 0#8 = ((crcOf (pad30 m q)) >>> 8).setWidth 8 := by
  unfold sealedB
  rw [List.getD_eq_getElem?_getD, List.getD_eq_getElem?_getD, List.getElem?_append_right (by rw [length_pad30 h]; omega), List.getElem?_append_right (by rw [length_pad30 h]; omega), length_pad30 h]
  exact ⟨rfl, rfl⟩
theorem cell_at {w : World} {A : Option Addr} {n c i : Nat} {q : List (BitVec 8)} (h : Slice w (.slice A n c) q) (hi : i < q.length) : ∃ b o, A = some ⟨b, o, none⟩ ∧ w.cell? ⟨b, o + i, none⟩ = some (.int .u8 (bd (q.getD i 0#8))) := by
  obtain ⟨A', c', e, _, h⟩ := h
  injection e with e _ _
  subst e
  obtain ⟨b, o, h1, _, h2⟩ := h (by rintro rfl; simp at hi)
  exact ⟨b, o, h1, h2 i _ (by rw [List.getElem?_eq_getElem hi]; simp [List.getD_eq_getElem?_getD, hi])⟩
set_option maxRecDepth 20000 in
set_option maxHeartbeats 1600000 in
theorem splaces_walk (D : SealOps) (m : BitVec 8) (A : Option Addr) (c : Nat) (p : List (BitVec 8)) (A2 : Option Addr) (c2 : Nat) (q : List (BitVec 8)) (w : World) (hS : Slice w (.slice A p.length c) p) (hA : A = none → c = 0) (hm : p.length ≤ maxLen) (hS2 : Slice w (.slice A2 q.length c2) q) (hA2 : A2 = none → c2 = 0) (hm2 : q.length ≤ maxLen) :
    Calls Try.prog 5 #[.int .u8 (bd m), .slice A p.length c, .slice A2 q.length c2] w fun e w' => e = .returned (.bool true) ∧ Below w.heap.size w w' := by
  have HI : Hid (Item w (.slice A p.length c) p) := Lib.hid ⟨A, c, rfl, hS, hA, hm⟩
  have HI2 : Hid (Item w (.slice A2 q.length c2) q) := Lib.hid ⟨A2, c2, rfl, hS2, hA2, hm2⟩
  obtain ⟨n, hn⟩ : ∃ n, p.length = n := ⟨_, rfl⟩
  obtain ⟨n2, hn2⟩ : ∃ n, q.length = n := ⟨_, rfl⟩
  have HN := Lib.hid hn
  have HN2 := Lib.hid hn2
  rw [hn] at HI ⊢
  rw [hn2] at HI2 ⊢
  clear hS hA hm hn hS2 hA2 hm2 hn2
  by_cases hm0 : m = 0#8
  · have hd : (bd m == 0) = true := by rw [bd_zero_iff, decide_eq_true hm0]
    clear hm0
    go_enter Try.func5, Try.ntmps5
    go_wp2_with fail
    refine (swakes_any D _).mono ?_
    rintro e w1 ⟨rfl, hb1⟩
    go_wp2_with fail
    go_ret
    exact ⟨rfl, hb1⟩
  have hd0 : (bd m == 0) = false := by rw [bd_zero_iff, decide_eq_false hm0]
  by_cases hbig : 29 < n
  · have hd : decide ((29 : Int) < (n : Int)) = true := decide_eq_true (by omega)
    go_enter Try.func5, Try.ntmps5
    go_wp2_with fail
    refine (swakes_any D _).mono ?_
    rintro e w1 ⟨rfl, hb1⟩
    go_wp2_with fail
    go_ret
    exact ⟨rfl, hb1⟩
  have hd1 : decide ((29 : Int) < (n : Int)) = false := decide_eq_false (by omega)
  by_cases hbig2 : 29 < n2
  · have hd : decide ((29 : Int) < (n2 : Int)) = true := decide_eq_true (by omega)
    go_enter Try.func5, Try.ntmps5
    go_wp2_with fail
    refine (swakes_any D _).mono ?_
    rintro e w1 ⟨rfl, hb1⟩
    go_wp2_with fail
    go_ret
    exact ⟨rfl, hb1⟩
  have hd2 : decide ((29 : Int) < (n2 : Int)) = false := decide_eq_false (by omega)
  have HP29 : Hid (p.length ≤ 29) := Lib.hid (by rw [HN.out]; omega)
  have HQ29 : Hid (q.length ≤ 29) := Lib.hid (by rw [HN2.out]; omega)
  have hb1 : encBad m p = false := by unfold encBad; rw [HN.out, decide_eq_false hm0, decide_eq_false hbig]; rfl
  have hb2 : encBad m q = false := by unfold encBad; rw [HN2.out, decide_eq_false hm0, decide_eq_false hbig2]; rfl
  have C1 := D.enc m p _ w HI.out
  have C2 := fun w h => D.enc m q (.slice A2 n2 c2) w h
  rw [encB_good hb1, encE_good hb1] at C1
  rw [encB_good hb2, encE_good hb2] at C2
  have HC2 := Lib.hid C2
  have HXL : Hid ((sealedB m p).length = 32) := Lib.hid (length_sealedB HP29.out)
  have HYL : Hid ((sealedB m q).length = 32) := Lib.hid (length_sealedB HQ29.out)
  have HX0 : Hid ((sealedB m p).getD 0 0#8 = m) := Lib.hid rfl
  have HXg : Hid (∀ i, i < 29 → (sealedB m p).getD (1 + i) 0#8 = p.getD i 0#8) := Lib.hid fun i hi => by rw [Nat.add_comm]; exact sealedB_get HP29.out i hi
  have HXT := Lib.hid (sealed_tail (m := m) HP29.out)
  have HAL := Lib.hid (alike_sealed (m := m) HP29.out HQ29.out)
  have HTK : Hid (((sealedB m p).drop 0).take 30 = pad30 m p) := Lib.hid (by rw [List.drop_zero]; exact sealedB_take HP29.out)
  have HPL : Hid ((pad30 m p).length = 30) := Lib.hid (length_pad30 HP29.out)
  clear hm0 hbig hbig2 hb1 hb2 C2
  generalize sealedB m p = X at *
  generalize sealedB m q = Y at *
  generalize pad30 m p = PP at *
  go_enter Try.func5, Try.ntmps5
  go_wp2_with fail
  refine C1.mono ?_
  rintro e w1 ⟨rfl, hb1⟩
  have hz := zeros_blk
  have HB1 := Lib.hid (hb1.alloc hb1.size (.cells (bs X) 24))
  have HIa := Lib.hid (HI.out.below HB1.out (Nat.le_refl _))
  have HIb := Lib.hid (HI2.out.below HB1.out (Nat.le_refl _))
  have R1 := Lib.hid (Row.fresh w1 24 (bs X))
  clear C1 hb1 hd0 hd1 hd2
  go_wp2_with (first | (refine wpList_store_row rfl 24 _ _ rfl w1.heap.size (bs X) rfl rfl 24 _ (Row.fresh _ _ _) (by rw [size_bs, HXL.out]; exact size_blk) (by rw [size_bs, size_bs, length_blk, HXL.out]) (one_bs _) ?_; rw [World.setRow_alloc_new]))
  obtain ⟨g7, hg7⟩ : ∃ g7, w1.heap.size = g7 := ⟨_, rfl⟩
  rw [hg7] at R1
  rw [hg7]
  clear hg7
  generalize w1.alloc (.cells (bs X) 24) = W1 at *
  refine (HC2.out W1 HIb.out).mono ?_
  rintro e w3 ⟨rfl, hb3⟩
  have HB3 := Lib.hid (HB1.out.trans (hb3.mono HB1.out.size))
  have HB3' := Lib.hid (HB3.out.alloc HB3.out.size (.cells (bs Y) 24))
  have HIa3 := Lib.hid ((HIa.out.below hb3 (Nat.le_refl _)).below (Same.alloc w3 (.cells (bs Y) 24)) (Nat.le_refl _))
  have HIb3 := Lib.hid ((HIb.out.below hb3 (Nat.le_refl _)).below (Same.alloc w3 (.cells (bs Y) 24)) (Nat.le_refl _))
  have R13 := Lib.hid ((R1.out.call hb3).alloc (.cells (bs Y) 24))
  have R3 := Lib.hid (Row.fresh w3 24 (bs Y))
  have c0 := row_at_bs R13.out (i := 0) (x := bd m) (by rw [HXL.out]; decide) (by rw [HX0.out])
  clear hb3 HB1 HIa HIb R1 HB3 HC2
  go_wp2_with (first | (refine wpList_store_row rfl 24 _ _ rfl w3.heap.size (bs Y) rfl rfl 24 _ (Row.fresh _ _ _) (by rw [size_bs, HYL.out]; exact size_blk) (by rw [size_bs, size_bs, length_blk, HYL.out]) (one_bs _) ?_; rw [World.setRow_alloc_new]))
  obtain ⟨g9, hg9⟩ : ∃ g9, w3.heap.size = g9 := ⟨_, rfl⟩
  rw [hg9] at R3
  rw [hg9]
  clear hg9 c0
  generalize w3.alloc (.cells (bs Y) 24) = W3 at *
  obtain ⟨S, hSd⟩ : ∃ S, alikeTo p q = S := ⟨_, rfl⟩
  have HS0 : Hid (S 0 = true) := Lib.hid (by rw [← hSd]; rfl)
  have HS1 : Hid (∀ k, S (k + 1) = (S k && (bd (p.getD k 0#8) == bd (q.getD k 0#8)))) := Lib.hid fun k => by rw [← hSd]; rfl
  rw [hSd] at HAL
  clear hSd
  go_loopw [11, 12] (fun s i wr => ∃ k : Nat, k ≤ 29 ∧ i = .int .i64 k ∧ s = .bool (S k) ∧ wr = W3) (fun _ i _ => 29 - (intOf i).toNat)
  case atStart => exact ⟨0, by omega, rfl, by rw [HS0.out], rfl⟩
  case round =>
    obtain ⟨k, hk, rfl, rfl, rfl⟩ := hrel
    by_cases hlt : k < 29
    · have hs := HS1.out k
      have hk0 : (0 : Int) ≤ (k : Int) := by omega
      have hk1 : (k : Int) < 29 := by omega
      obtain ⟨x, hx⟩ : ∃ x, p.getD k 0#8 = x := ⟨_, rfl⟩
      obtain ⟨y, hy⟩ : ∃ y, q.getD k 0#8 = y := ⟨_, rfl⟩
      rw [hx, hy] at hs
      have HS2 := Lib.hid hs
      have cx := row_at_bs R13.out (i := 1 + k) (x := bd x) (by rw [HXL.out]; omega) (by rw [HXg.out k hlt, hx])
      have hp1 : (k : Int) < (n : Int) ∧ (∃ b o, A = some ⟨b, o, none⟩ ∧ wr.cell? ⟨b, o + k, none⟩ = some (.int .u8 (bd x))) ∨ (decide ((k : Int) < (n : Int)) = false ∧ (n : Int) ≤ (k : Int)) ∧ x = 0#8 := by
        by_cases h : k < n
        · obtain ⟨b, o, h1, h2⟩ := cell_at HIa3.out.slice (i := k) (by rw [HN.out]; exact h)
          exact .inl ⟨by omega, b, o, h1, by rw [h2, hx]⟩
        · exact .inr ⟨⟨decide_eq_false (by omega), by omega⟩, by rw [← hx, List.getD_eq_getElem?_getD, List.getElem?_eq_none (by rw [HN.out]; omega)]; rfl⟩
      have hp2 : (k : Int) < (n2 : Int) ∧ (∃ b o, A2 = some ⟨b, o, none⟩ ∧ wr.cell? ⟨b, o + k, none⟩ = some (.int .u8 (bd y))) ∨ (decide ((k : Int) < (n2 : Int)) = false ∧ (n2 : Int) ≤ (k : Int)) ∧ y = 0#8 := by
        by_cases h : k < n2
        · obtain ⟨b, o, h1, h2⟩ := cell_at HIb3.out.slice (i := k) (by rw [HN2.out]; exact h)
          exact .inl ⟨by omega, b, o, h1, by rw [h2, hy]⟩
        · exact .inr ⟨⟨decide_eq_false (by omega), by omega⟩, by rw [← hy, List.getD_eq_getElem?_getD, List.getElem?_eq_none (by rw [HN2.out]; omega)]; rfl⟩
      clear hx hy hs
      obtain ⟨t, ht⟩ : ∃ t, S k = t := ⟨_, rfl⟩
      have HT := Lib.hid ht
      rw [ht]
      clear ht
      rcases hp1 with ⟨hl1, b1, o1, rfl, ca⟩ | ⟨⟨hl1, hle1⟩, rfl⟩ <;> rcases hp2 with ⟨hl2, b2, o2, rfl, cb⟩ | ⟨⟨hl2, hle2⟩, rfl⟩ <;> cases t <;>
      · go_wp2_with fail
        exact ⟨⟨k + 1, by omega, by go_num, by rw [HS2.out, HT.out]; rfl, trivial⟩, by simp [intOf] <;> omega⟩
    · obtain rfl : k = 29 := by omega
      obtain ⟨t, ht⟩ : ∃ t, S 29 = t := ⟨_, rfl⟩
      rw [ht] at HAL
      rw [ht]
      have hsl : Slice wr (.slice (some ⟨g7, 0, none⟩) 30 32) PP := by
        have := row_piece R13.out (off := 0) (n := 30) (c := 32) (by rw [HXL.out]; omega) (by decide)
        rw [HTK.out] at this; exact this
      have C3 := check_any [PP] _ _ (parts1 hsl) (by simp [maxLen]) (by simp [HPL.out, maxLen])
      rw [show ([PP] : List (List (BitVec 8))).flatten = PP by simp] at C3
      obtain ⟨z, hz2⟩ : ∃ z, crcOf PP = z := ⟨_, rfl⟩
      rw [hz2] at C3 HXT
      have RX := R13.out.alloc (.cells #[.slice (some ⟨g7, 0, none⟩) 30 32] 22)
      have RY := R3.out.alloc (.cells #[.slice (some ⟨g7, 0, none⟩) 30 32] 22)
      have HBz := Lib.hid (HB3'.out.alloc HB3'.out.size (.cells #[.slice (some ⟨g7, 0, none⟩) 30 32] 22))
      have c30 := row_at_bs RX (i := 30) (x := bd (z.setWidth 8)) (by rw [HXL.out]; decide) (by rw [HXT.out.1])
      have c31 := row_at_bs RX (i := 31) (x := bd ((z >>> 8).setWidth 8)) (by rw [HXL.out]; decide) (by rw [HXT.out.2])
      have rx := row_range RX (Below.refl _ _) RX.lt
      have ry := row_range RY (Below.refl _ _) RY.lt
      have q1 := eql_blk X Y HXL.out HYL.out (wr.alloc (.cells #[.slice (some ⟨g7, 0, none⟩) 30 32] 22))
      rw [HAL.out] at q1
      clear ht hsl hz2 RX RY hk hlt
      go_wp2_with fail
      refine C3.mono ?_
      rintro e w8 ⟨rfl, rfl⟩
      clear C3
      generalize wr.alloc (.cells #[.slice (some ⟨g7, 0, none⟩) 30 32] 22) = w8 at *
      cases t <;>
      · go_wp2_with (first | (refine wpList_guarded (by rfl) (fun K hK => ?_); refine wp_load_mid 24 _ rfl g7 0 rfl (bs X).toList _ rx Try.underlying24 rfl (by rw [len_bs, HXL.out]; exact size_blk) (hK _ _ ?_)) | (refine wpList_guarded (by rfl) (fun K hK => ?_); refine wp_load_mid 24 _ rfl g9 0 rfl (bs Y).toList _ ry Try.underlying24 rfl (by rw [len_bs, HYL.out]; exact size_blk) (hK _ _ ?_)))
        refine (swakes_any D _).mono ?_
        rintro e w9 ⟨rfl, hb9⟩
        go_wp2_with fail
        go_ret
        exact ⟨rfl, HBz.out.trans (hb9.mono HBz.out.size)⟩
end Go.Proofs.Ytmfhlgmgfflbkaa
