/- The statement PoolApart: its walk. -/
import Derived.Test.YtkfccdjeohbngaaPoolFair
import Derived.Test.YtkfccdjeohbngaaPoolWakes
set_option maxRecDepth 4000
namespace Go.Proofs.Ytkfccdjeohbngaa
open Go Go.RowKit
theorem useL_or0 (L : List Int) : ∀ u v : BitVec 16, useL (u ||| v) L = u ||| useL v L := by
  induction L with
  | nil => exact fun u v => rfl
  | cons b L ih =>
    intro u v
    show useL ((u ||| v) ||| bitI b) L = u ||| useL (v ||| bitI b) L
    rw [BitVec.or_assoc, ih]
theorem bit_is : ∀ x : Fin 12, ∀ b : Fin 12, (bitI (x.val : Int)).getLsbD b.val = decide ((b.val : Int) = (x.val : Int)) := by decide +kernel
theorem useL_bit (b : Nat) (hb : b < 12) : ∀ (L : List Int) (u : BitVec 16), (∀ x ∈ L, 0 ≤ x ∧ x < 12) → (useL u L).getLsbD b = (u.getLsbD b || L.contains (b : Int)) := by
  intro L
  induction L with
  | nil => intro u _; simp [useL]
  | cons x L ih =>
    intro u hL
    have hx := hL x (by simp)
    show (useL (u ||| bitI x) L).getLsbD b = _
    rw [ih _ (fun y hy => hL y (List.mem_cons_of_mem _ hy)), BitVec.getLsbD_or]
    have := bit_is ⟨x.toNat, by omega⟩ ⟨b, hb⟩
    have e : ((x.toNat : Nat) : Int) = x := by omega
    simp only [e] at this
    rw [this, List.contains_cons, Bool.or_assoc]
    congr 2
theorem useL_and (u : BitVec 16) (L : List Int) : useL u L &&& u = u := by
  have h : useL u L = u ||| useL 0#16 L := by have := useL_or0 L u 0#16; rwa [BitVec.or_zero] at this
  rw [h]
  apply BitVec.eq_of_getLsbD_eq
  intro i _
  rw [BitVec.getLsbD_and, BitVec.getLsbD_or]
  cases u.getLsbD i <;> simp
theorem free_take (u : BitVec 16) (K : Nat) : (freeL (useL u ((freeL u).take K))).length = (freeL u).length - K := by
  obtain ⟨F, hF⟩ : ∃ F, (List.range 12).filter (fun b => !u.getLsbD b) = F := ⟨_, rfl⟩
  have hfl : freeL u = F.map Int.ofNat := by rw [← hF]; rfl
  have hnd : F.Nodup := by rw [← hF]; exact List.nodup_range.sublist List.filter_sublist
  have hlt : ∀ b ∈ F, b < 12 := fun b hb => by rw [← hF] at hb; exact List.mem_range.1 (List.mem_filter.1 hb).1
  have hV : (freeL u).take K = (F.take K).map Int.ofNat := by rw [hfl, List.map_take]
  have hb12 : ∀ x ∈ (freeL u).take K, 0 ≤ x ∧ x < 12 := fun x hx => freeB_bound u 12 x (List.mem_of_mem_take hx)
  have hcon : ∀ b : Nat, ((freeL u).take K).contains (b : Int) = (F.take K).contains b := fun b => by
    rw [hV, Bool.eq_iff_iff]
    simp only [List.contains_iff_mem, List.mem_map]
    constructor
    · rintro ⟨a, ha, e⟩
      have : a = b := Int.ofNat.inj e
      rw [← this]; exact ha
    · intro hb
      exact ⟨b, hb, rfl⟩
  have e1 : (List.range 12).filter (fun b => !(useL u ((freeL u).take K)).getLsbD b) = F.filter (fun b => !(F.take K).contains b) := by
    rw [← hF, List.filter_filter, hF]
    refine List.filter_congr fun b hb => ?_
    rw [useL_bit b (List.mem_range.1 hb) _ u hb12, hcon]
    cases u.getLsbD b <;> simp
  have e2 : F.filter (fun b => !(F.take K).contains b) = F.drop K := by
    conv => lhs; rw [← List.take_append_drop K F]
    rw [List.filter_append, List.take_append_drop]
    have h1 : (F.take K).filter (fun b => !(F.take K).contains b) = [] := by
      rw [List.filter_eq_nil_iff]
      intro b hb
      simp [hb]
    have h2 : (F.drop K).filter (fun b => !(F.take K).contains b) = F.drop K := by
      rw [List.filter_eq_self]
      intro b hb
      have hnd2 := hnd
      rw [← List.take_append_drop K F, List.nodup_append] at hnd2
      have : b ∉ F.take K := fun h => hnd2.2.2 b h b hb rfl
      simpa [List.contains_iff_mem] using this
    rw [h1, h2]; rfl
  show (((List.range 12).filter (fun b => !(useL u ((freeL u).take K)).getLsbD b)).map Int.ofNat).length = _
  rw [e1, e2, List.length_map, List.length_drop, hfl, List.length_map]
set_option maxHeartbeats 3200000 in
theorem plapart_walk (A : Option Addr) (n c : Nat) (l : List Vl) (x : BitVec 8) (w : World) (h : VolsAt w (.slice A n c) l) (hn : n ≤ maxLen) :
    Calls Try.prog 4 #[.slice A n c, .int .u8 (bd x)] w fun e w' => e = .returned (.bool true) ∧ Below w.heap.size w w' := by
  go_enter Try.func4, Try.ntmps4
  go_wp2_with fail
  refine (fairV_any A n c l w h hn).mono ?_
  rintro e w2 ⟨rfl, rfl⟩
  cases hfl : fairV l with
  | false =>
    go_wp2_with fail
    refine (plwakes_any w).mono ?_
    rintro x9 w99 ⟨rfl, hb9⟩
    go_wp2_with fail
    go_ret
    exact ⟨rfl, (Below.refl w.heap.size w).trans (hb9.mono (Below.refl w.heap.size w).size)⟩
  | true =>
  have HLN : Hid (l.length ≤ 20) := Lib.hid (fairV_len hfl)
  have HEL := Lib.hid (fairV_each hfl)
  have HEb : Hid (∀ x ∈ l, x.2.length ≤ 1000000) := Lib.hid fun y hy => Nat.le_trans (HEL.out y hy) (by omega)
  have HMl : Hid (l.length = n) := Lib.hid (vols_len h)
  have HNb : Hid (n ≤ 1000000) := Lib.hid (by have := HMl.out; have := HLN.out; omega)
  have HVl := Lib.hid h
  clear hfl h
  obtain ⟨K, hK⟩ : ∃ K : Nat, 1 + (bd x).tmod 4 = K := ⟨(1 + (bd x).tmod 4).toNat, by have := bd_lo x; rw [Int.tmod_eq_emod_of_nonneg (by omega)]; omega⟩
  have hK14 : 1 ≤ K ∧ K ≤ 4 := by have := bd_lo x; have := bd_hi x; rw [Int.tmod_eq_emod_of_nonneg (by omega)] at hK; omega
  have hwx : IntKind.i64.wrap (bd x) = bd x := by have := bd_lo x; have := bd_hi x; rw [IntKind.wrap_i64]; omega
  have hwK : IntKind.i64.wrap (K : Int) = K := by rw [IntKind.wrap_i64]; omega
  have HK14 := Lib.hid hK14
  obtain ⟨u, hu⟩ : ∃ u, usedV l = u := ⟨_, rfl⟩
  have HU := Lib.hid hu
  obtain ⟨N, hN⟩ : ∃ N, (freeL u).length = N := ⟨_, rfl⟩
  have HN := Lib.hid hN
  have HN12 : Hid (N ≤ 12) := Lib.hid (by rw [← hN]; exact freeB_len u 12)
  clear hu hN hK14
  have F1 := free_any A n c l w HVl.out HNb.out HEb.out
  rw [HU.out, HN.out] at F1
  go_wp2_with fail
  refine F1.mono ?_
  rintro e W1 ⟨rfl, hb⟩
  have HB1 := Lib.hid hb
  have HVlx := Lib.hid (HVl.out.below hb (Nat.le_refl _))
  clear HVl
  have HVl := HVlx
  clear HVlx
  clear hb F1
  have T2 := take_any K A n c l W1 HVl.out HNb.out HEb.out (by have := HK14.out; omega)
  rw [HU.out] at T2
  by_cases hfk : N < K
  · have hE : takeE u K = 18 := by unfold takeE; rw [if_neg (by have := HK14.out; omega), if_pos (by have := HN.out; omega)]
    have hV : takeV u K = [] := if_pos (.inr (.inr (by have := HN.out; omega)))
    rw [hE, hV] at T2
    have hd : decide (N < K) = true := decide_eq_true hfk
    have hd2 : decide ((N : Int) < (K : Int)) = true := decide_eq_true (by omega)
    clear hE hV hfk
    go_wp2_with fail
    refine T2.mono ?_
    rintro e W2 ⟨v2, rfl, ho, hb⟩
    obtain ⟨Q, q, rfl, _⟩ := own_slice_form ho
    have HB2 := Lib.hid (HB1.out.trans (hb.mono HB1.out.size))
    clear ho hb T2
    go_wp2_with fail
    refine (plwakes_any W2).mono ?_
    rintro x9 w99 ⟨rfl, hb9⟩
    go_wp2_with fail
    go_ret
    exact ⟨rfl, HB2.out.trans (hb9.mono HB2.out.size)⟩

  have hE : takeE u K = 0 := by unfold takeE; rw [if_neg (by have := HK14.out; omega), if_neg (by have := HN.out; omega)]
  have hV : takeV u K = (freeL u).take K := by unfold takeV; rw [if_neg (by have := HK14.out; have := HN.out; omega)]; rfl
  obtain ⟨V, hVd⟩ : ∃ V, (freeL u).take K = V := ⟨_, rfl⟩
  have hVL : V.length = K := by rw [← hVd, List.length_take, HN.out]; omega
  rw [hE, hV, hVd, hVL] at T2
  have HVV := Lib.hid hVd
  have HVL := Lib.hid hVL
  have HVB : Hid (∀ y ∈ V, -9223372036854775808 ≤ y ∧ y < 9223372036854775808) := Lib.hid fun y hy => by
    have := freeB_bound u 12 y (by rw [← hVd] at hy; exact List.mem_of_mem_take hy)
    omega
  have hd : decide (N < K) = false := decide_eq_false hfk
  have hd2 : decide ((N : Int) < (K : Int)) = false := decide_eq_false (by omega)
  have HFK : Hid (K ≤ N) := Lib.hid (by omega)
  clear hE hV hVd hVL hfk
  go_wp2_with fail
  refine T2.mono ?_
  rintro e W2 ⟨v2, rfl, ho, hb⟩
  obtain ⟨Q, q, rfl, _⟩ := own_slice_form ho
  have HIA := Lib.hid (ints_own ho HVB.out)
  have HB2 := Lib.hid (HB1.out.trans (hb.mono HB1.out.size))
  have HVlx := Lib.hid (HVl.out.below hb (Nat.le_refl _))
  clear HVl
  have HVl := HVlx
  clear HVlx
  clear ho hb T2
  have U3 := used_any A n c l W2 HVl.out HNb.out HEb.out
  rw [HU.out] at U3
  go_wp2_with fail
  refine U3.mono ?_
  rintro e W3 ⟨rfl, hb⟩
  have HB3 := Lib.hid (HB2.out.trans (hb.mono HB2.out.size))
  have HVlx := Lib.hid (HVl.out.below hb (Nat.le_refl _))
  clear HVl
  have HVl := HVlx
  clear HVlx
  have HIAx := Lib.hid (HIA.out.below hb (Nat.le_refl _))
  clear HIA
  have HIA := HIAx
  clear HIAx
  clear hb U3
  go_wp2_with fail
  clear hd hd2
  go_loopw [10, 11] (fun a i wr => ∃ b at_ : Nat, b ≤ 12 ∧ at_ ≤ K ∧ (freeB u b).length = at_ ∧ i = .int .i64 b ∧ a = .int .i64 at_ ∧ W3 = wr) (fun _ i _ => 12 - (intOf i).toNat)
  case atStart => exact ⟨0, 0, by omega, by omega, rfl, rfl, rfl, rfl⟩
  case round =>
    obtain ⟨b, j, hb, hj, hjl, rfl, rfl, rfl⟩ := hrel
    have HJ := Lib.hid hjl
    clear hjl
    by_cases hcond : b < 12 ∧ j < K
    · obtain ⟨hb12, hjK⟩ := hcond
      have hd1 : decide ((b : Int) < 12) = true := decide_eq_true (by omega)
      have hd2 : decide (j < K) = true := decide_eq_true hjK
      have hsh := bit_shr u b
      have hADD := freeB_add u b
      obtain ⟨z, hz⟩ : ∃ z, u.getLsbD b = z := ⟨_, rfl⟩
      rw [hz] at hsh hADD
      have HAD := Lib.hid hADD
      clear hz hADD
      cases z with
      | true =>
        have hsh : bits .and .u16 (hd u / (2 : Int) ^ b) 1 = 1 := hsh
        have HAD2 : Hid (freeB u (b + 1) = freeB u b) := Lib.hid (by rw [HAD.out]; exact List.append_nil _)
        go_wp2_with fail
        refine ⟨⟨b + 1, j, by omega, by omega, by rw [HAD2.out]; exact HJ.out, by go_num, by first | rfl | trivial | go_num, by first | rfl | trivial⟩, by simp [intOf]; omega⟩
      | false =>
        have hsh : bits .and .u16 (hd u / (2 : Int) ^ b) 1 = 0 := hsh
        have HAD2 : Hid (freeB u (b + 1) = freeB u b ++ [(b : Int)]) := Lib.hid HAD.out
        obtain ⟨gb, ob, y, hy, hQ, hgb, hcy, _⟩ := ints_get HIA.out (k := j) (by rw [HVL.out]; exact hjK)
        have hyb : y = (b : Int) := by
          have hp := freeB_pre u (b + 1) (by omega)
          have hl : (freeB u (b + 1)).length = j + 1 := by rw [HAD2.out, List.length_append, HJ.out]; rfl
          rw [hl] at hp
          have h1 : (freeB u (b + 1))[j]? = some (b : Int) := by rw [HAD2.out, List.getElem?_append_right (by rw [HJ.out]; exact Nat.le_refl _), HJ.out, Nat.sub_self]; rfl
          rw [hp, List.getElem?_take_of_lt (by omega)] at h1
          rw [← HVV.out, List.getElem?_take_of_lt hjK, h1] at hy
          injection hy with hy
          exact hy.symm
        subst hyb hQ
        obtain ⟨O, hO⟩ : ∃ O, ob + j = O := ⟨_, rfl⟩
        rw [hO] at hcy
        have hj12 : j < 5 := by have := HK14.out; omega
        have hj0 : (0 : Int) ≤ (j : Int) := by omega
        have hj1 : (j : Int) < (K : Int) := by omega
        clear hy
        go_wp2_with fail
        refine ⟨⟨b + 1, j + 1, by omega, by omega, by rw [HAD2.out, List.length_append, HJ.out]; rfl, by go_num, by go_num, by first | rfl | trivial⟩, by simp [intOf]; omega⟩
    · have hjK : j = K := by
        apply Decidable.byContradiction
        intro hne
        have : b = 12 := by omega
        subst this
        have h1 := HJ.out
        rw [freeB_12, HN.out] at h1
        have := HFK.out
        omega
      subst hjK
      have hjK0 : ¬ j < j := Nat.lt_irrefl _
      have hd1 : decide (j < j) = false := decide_eq_false hjK0
      have HA6 : Hid (Below W3.heap.size W3 (W3.alloc (.cells #[] 42))) := Lib.hid ((Below.refl _ _).alloc (Nat.le_refl _) _)
      have HE6 := Lib.hid (OV.empty W3.heap.size W3 (Nat.le_refl _))
      have HIV : Hid (∀ W, Below W3.heap.size W3 W → InV W3.heap.size W Q q V) := Lib.hid fun W hb => .inl ⟨W3, Nat.le_refl _, hb, by rw [HVL.out]; exact HIA.out⟩
      have HLV : Hid (∀ W, Below W3.heap.size W3 W → VolsIn W3.heap.size (W.alloc (.cells #[.string ⟨#[110, 101, 119]⟩, .slice Q j q] 42)) (some ⟨W.heap.size, 0, none⟩) 1 1 [(⟨#[110, 101, 119]⟩, V)]) := Lib.hid fun W hb => by
        have h2 := vol_lit (s := ⟨#[110, 101, 119]⟩) (Row.fresh W 42 #[.string ⟨#[110, 101, 119]⟩, .slice Q V.length q]) (HIV.out _ (hb.alloc hb.size _)) (by decide)
        rw [HVL.out] at h2
        exact h2
      have HUN : Hid (usedV (l ++ [(⟨#[110, 101, 119]⟩, V)]) = useL u V) := Lib.hid (by rw [← HU.out]; unfold usedV; rw [List.foldl_append]; rfl)
      have HEN : Hid (∀ y ∈ l ++ [(⟨#[110, 101, 119]⟩, V)], y.2.length ≤ 1000000) := Lib.hid fun y hy => by
        rcases List.mem_append.1 hy with h | h
        · exact HEb.out y h
        · rw [List.mem_singleton.1 h]; show V.length ≤ 1000000; have := HVL.out; have := HK14.out; omega
      have HFN : Hid ((freeL (useL u V)).length = N - j) := Lib.hid (by rw [← HVV.out, free_take u j, HN.out])
      have HAND : Hid (bits .and .u16 (hd (useL u V)) (hd u) = hd u) := Lib.hid (by rw [and_hd, useL_and])
      clear hcond
      go_upto_region 20 with (first | ((with_reducible refine wpList_plain ?_ ?_); exact rfl; intro KK hKK; refine wp_append_vols (.tmp 80) (.tmp 81) rfl W3.heap.size _ _ rfl HE6.out _ _ _ _ rfl (vols_in HVl.out (Nat.le_refl _) HA6.out) (by have := HLN.out; (repeat rw [List.length_append]); (repeat rw [List.length_nil]); (repeat rw [List.length_singleton]); omega) HA6.out.size (fun v6 w6 ovx hbx => hKK _ _ ?_); clear hKK KK; have HB6 := Lib.hid (HA6.out.trans hbx); (try rw [List.nil_append] at ovx); have HO6 := Lib.hid ovx; clear ovx hbx) | ((with_reducible refine wpList_plain ?_ ?_); exact rfl; intro KK hKK; refine wp_append_vols (.tmp 82) (.tmp 85) rfl W3.heap.size _ _ rfl ((HO6.out).call ((Below.refl _ _).alloc (Nat.le_refl _) _) HB6.out.size) _ _ _ _ rfl (HLV.out _ HB6.out) (by have := HLN.out; (repeat rw [List.length_append]); (repeat rw [List.length_nil]); (repeat rw [List.length_singleton]); omega) (HB6.out.alloc HB6.out.size _).size (fun v7 w7 ovx hbx => hKK _ _ ?_); clear hKK KK; have HB7 := Lib.hid ((HB6.out.alloc HB6.out.size _).trans hbx); (try rw [List.nil_append] at ovx); have HO7 := Lib.hid ovx; clear ovx hbx))
      all_goals
        clear hd1
        obtain ⟨A7, N7, c7, rfl, hN7, _⟩ := OV.form2 HO7.out
        have HV7 := Lib.hid (HO7.out.vols (by have := HLN.out; rw [List.length_append, List.length_singleton]; unfold maxLen; omega))
        have HBW : Hid (Below w.heap.size w w7) := Lib.hid (HB3.out.trans (HB7.out.mono HB3.out.size))
        have hN7b : N7 ≤ 1000000 := by have := HLN.out; rw [List.length_append, List.length_singleton] at hN7; omega
        have F8 := free_any A7 N7 c7 _ w7 HV7.out hN7b HEN.out
        rw [HUN.out, HFN.out] at F8
        have hs : IntKind.i64.wrap ((N : Int) - j) = ((N - j : Nat) : Int) := by have := HN12.out; have := HFK.out; rw [IntKind.wrap_i64]; omega
        go_wp2_with fail
        refine F8.mono ?_
        rintro e w8 ⟨rfl, hb8⟩
        have U9 := used_any A7 N7 c7 _ w8 (HV7.out.below hb8 (Nat.le_refl _)) hN7b HEN.out
        rw [HUN.out] at U9
        have HB8 := Lib.hid (HBW.out.trans (hb8.mono HBW.out.size))
        clear hb8 F8
        go_wp2_with fail
        refine U9.mono ?_
        rintro e w9 ⟨rfl, hb9⟩
        have HB9 := Lib.hid (HB8.out.trans (hb9.mono HB8.out.size))
        have hand := HAND.out
        clear hb9 U9
        go_wp2_with fail
        refine (plwakes_any w9).mono ?_
        rintro x9 w99 ⟨rfl, hb9⟩
        go_wp2_with fail
        go_ret
        exact ⟨rfl, HB9.out.trans (hb9.mono HB9.out.size)⟩
end Go.Proofs.Ytkfccdjeohbngaa
