/- Which blocks volumes use, which are free, the least of them: the document's answer. -/
import Derived.Test.YtkfccdjeohbngaaPoolTake
set_option maxRecDepth 4000
namespace Go.Proofs.Ytkfccdjeohbngaa
open Go Go.RowKit
set_option maxHeartbeats 3200000 in
theorem refused_any (A : Option Addr) (n c : Nat) (l : List Vl) (w : World) (h : VolsAt w (.slice A n c) l) (hn : n ≤ 1000000) (hm : ∀ x ∈ l, x.2.length ≤ 1000000) :
    Calls Try.prog 13 #[.slice A n c] w fun e w' => e = .returned (.int .u16 (hd (usedV l))) ∧ w = w' := by
  have hln := vols_len h
  have HF := Lib.hid (fun k (hk : k < l.length) => vols_get h hk)
  have HLN := Lib.hid hln
  have HM := Lib.hid hm
  clear h hln hm
  go_enter Try.func13, Try.ntmps13
  go_wp2_with fail
  go_loopw [3, 4] (fun u i wr => ∃ k : Nat, k ≤ n ∧ i = .int .i64 k ∧ u = .int .u16 (hd (usedV (l.take k))) ∧ w = wr) (fun _ i _ => n - (intOf i).toNat)
  case atStart => exact ⟨0, by omega, rfl, rfl, rfl⟩
  case round =>
    obtain ⟨k, hk, rfl, rfl, rfl⟩ := hrel
    by_cases hlt : k < n
    · obtain ⟨b, o, s0, L, B, m, c1, hx, rfl, hbw, hr, hi, hlm, _⟩ := HF.out k (by rw [HLN.out]; exact hlt)
      obtain ⟨O, hO⟩ : ∃ O, o + k * 2 = O := ⟨_, rfl⟩
      rw [hO] at hr
      have hm6 : m ≤ 1000000 := by rw [← hlm]; exact HM.out _ (List.mem_of_getElem? hx)
      have hcd : w.cell? ⟨b, O + 1, none⟩ = some (.slice B m c1) := hr 1 _ rfl
      have HI := Lib.hid hi
      have HLM := Lib.hid hlm
      have HU1 := Lib.hid (usedV_take hx)
      obtain ⟨U0, hU0⟩ : ∃ U0, usedV (l.take k) = U0 := ⟨_, rfl⟩
      rw [hU0] at HU1 ⊢
      have hk0 : (0 : Int) ≤ (k : Int) := by omega
      have hk1 : (k : Int) < (n : Int) := by omega
      clear hx hr hi hlm hU0 hbw
      go_wp2_with fail
      go_loopw [3, 5] (fun u i wr' => ∃ j : Nat, j ≤ m ∧ i = .int .i64 j ∧ u = .int .u16 (hd (useL U0 (L.take j))) ∧ w = wr') (fun _ i _ => m - (intOf i).toNat)
      case atStart => exact ⟨0, by omega, rfl, rfl, rfl⟩
      case round =>
        obtain ⟨j, hj, rfl, rfl, rfl⟩ := hrel
        obtain ⟨U, hU⟩ : ∃ U, useL U0 (L.take j) = U := ⟨_, rfl⟩
        rw [hU]
        have HU := Lib.hid hU
        clear hU
        by_cases hlt2 : j < m
        · obtain ⟨b2, o2, x, hx, rfl, hb2, hc2, _⟩ := ints_get HI.out (k := j) (by rw [HLM.out]; exact hlt2)
          obtain ⟨O2, hO2⟩ : ∃ O, o2 + j = O := ⟨_, rfl⟩
          rw [hO2] at hc2
          have HX := Lib.hid hx
          have HUJ : Hid (∀ x, L[j]? = some x → useL U0 (L.take (j + 1)) = useL U0 (L.take j) ||| bitI x) := Lib.hid (fun x hx => useL_take hx)
          have hj0 : (0 : Int) ≤ (j : Int) := by omega
          have hj1 : (j : Int) < (m : Int) := by omega
          clear hx hb2
          by_cases hx0 : 0 ≤ x
          case neg =>
            have hd : decide ((0 : Int) ≤ x) = false := decide_eq_false hx0
            have hbz : bitI x = 0#16 := by unfold bitI; rw [if_neg (by omega)]
            have HBZ := Lib.hid hbz
            clear hbz hx0
            go_wp2_with fail
            exact ⟨⟨j + 1, by omega, by go_num, by rw [HUJ.out _ HX.out, HU.out, HBZ.out, BitVec.or_zero], by first | rfl | trivial⟩, by simp [intOf]; omega⟩
          by_cases hx12 : x < 12
          case neg =>
            have hd0 : decide ((0 : Int) ≤ x) = true := decide_eq_true hx0
            have hd : decide (x < 12) = false := decide_eq_false hx12
            have hbz : bitI x = 0#16 := by unfold bitI; rw [if_neg (by omega)]
            have HBZ := Lib.hid hbz
            clear hbz hx0 hx12
            go_wp2_with fail
            exact ⟨⟨j + 1, by omega, by go_num, by rw [HUJ.out _ HX.out, HU.out, HBZ.out, BitVec.or_zero], by first | rfl | trivial⟩, by simp [intOf]; omega⟩
          obtain rfl | rfl | rfl | rfl | rfl | rfl | rfl | rfl | rfl | rfl | rfl | rfl : x = 0 ∨ x = 1 ∨ x = 2 ∨ x = 3 ∨ x = 4 ∨ x = 5 ∨ x = 6 ∨ x = 7 ∨ x = 8 ∨ x = 9 ∨ x = 10 ∨ x = 11 := by omega
          · have hor : bits .or .u16 (hd U) 1 = hd (U ||| 1#16) := or_hd U 1#16
            go_wp2_with fail
            exact ⟨⟨j + 1, by omega, by go_num, by rw [HUJ.out _ HX.out, HU.out]; rfl, by first | rfl | trivial⟩, by simp [intOf]; omega⟩
          · have hor : bits .or .u16 (hd U) 2 = hd (U ||| 2#16) := or_hd U 2#16
            go_wp2_with fail
            exact ⟨⟨j + 1, by omega, by go_num, by rw [HUJ.out _ HX.out, HU.out]; rfl, by first | rfl | trivial⟩, by simp [intOf]; omega⟩
          · have hor : bits .or .u16 (hd U) 4 = hd (U ||| 4#16) := or_hd U 4#16
            go_wp2_with fail
            exact ⟨⟨j + 1, by omega, by go_num, by rw [HUJ.out _ HX.out, HU.out]; rfl, by first | rfl | trivial⟩, by simp [intOf]; omega⟩
          · have hor : bits .or .u16 (hd U) 8 = hd (U ||| 8#16) := or_hd U 8#16
            go_wp2_with fail
            exact ⟨⟨j + 1, by omega, by go_num, by rw [HUJ.out _ HX.out, HU.out]; rfl, by first | rfl | trivial⟩, by simp [intOf]; omega⟩
          · have hor : bits .or .u16 (hd U) 16 = hd (U ||| 16#16) := or_hd U 16#16
            go_wp2_with fail
            exact ⟨⟨j + 1, by omega, by go_num, by rw [HUJ.out _ HX.out, HU.out]; rfl, by first | rfl | trivial⟩, by simp [intOf]; omega⟩
          · have hor : bits .or .u16 (hd U) 32 = hd (U ||| 32#16) := or_hd U 32#16
            go_wp2_with fail
            exact ⟨⟨j + 1, by omega, by go_num, by rw [HUJ.out _ HX.out, HU.out]; rfl, by first | rfl | trivial⟩, by simp [intOf]; omega⟩
          · have hor : bits .or .u16 (hd U) 64 = hd (U ||| 64#16) := or_hd U 64#16
            go_wp2_with fail
            exact ⟨⟨j + 1, by omega, by go_num, by rw [HUJ.out _ HX.out, HU.out]; rfl, by first | rfl | trivial⟩, by simp [intOf]; omega⟩
          · have hor : bits .or .u16 (hd U) 128 = hd (U ||| 128#16) := or_hd U 128#16
            go_wp2_with fail
            exact ⟨⟨j + 1, by omega, by go_num, by rw [HUJ.out _ HX.out, HU.out]; rfl, by first | rfl | trivial⟩, by simp [intOf]; omega⟩
          · have hor : bits .or .u16 (hd U) 256 = hd (U ||| 256#16) := or_hd U 256#16
            go_wp2_with fail
            exact ⟨⟨j + 1, by omega, by go_num, by rw [HUJ.out _ HX.out, HU.out]; rfl, by first | rfl | trivial⟩, by simp [intOf]; omega⟩
          · have hor : bits .or .u16 (hd U) 512 = hd (U ||| 512#16) := or_hd U 512#16
            go_wp2_with fail
            exact ⟨⟨j + 1, by omega, by go_num, by rw [HUJ.out _ HX.out, HU.out]; rfl, by first | rfl | trivial⟩, by simp [intOf]; omega⟩
          · have hor : bits .or .u16 (hd U) 1024 = hd (U ||| 1024#16) := or_hd U 1024#16
            go_wp2_with fail
            exact ⟨⟨j + 1, by omega, by go_num, by rw [HUJ.out _ HX.out, HU.out]; rfl, by first | rfl | trivial⟩, by simp [intOf]; omega⟩
          · have hor : bits .or .u16 (hd U) 2048 = hd (U ||| 2048#16) := or_hd U 2048#16
            go_wp2_with fail
            exact ⟨⟨j + 1, by omega, by go_num, by rw [HUJ.out _ HX.out, HU.out]; rfl, by first | rfl | trivial⟩, by simp [intOf]; omega⟩
        · obtain rfl : j = m := by omega
          have hUU : usedV (l.take (k + 1)) = U := by rw [HU1.out, ← HU.out, List.take_of_length_le (by rw [HLM.out]; exact Nat.le_refl _)]
          have HUU := Lib.hid hUU
          clear hUU
          go_wp2_with fail
          exact ⟨⟨k + 1, by omega, by go_num, by rw [HUU.out], by first | rfl | trivial⟩, by simp [intOf]; omega⟩
    · obtain rfl : k = n := by omega
      have hT : l.take k = l := List.take_of_length_le (by rw [HLN.out]; exact Nat.le_refl _)
      rw [hT]
      go_wp2_with fail
      go_ret
      exact ⟨rfl, rfl⟩
theorem own_takeI {w : World} {base : Nat} {A : Option Addr} {c n : Nat} {L : List Int} (h : w.ownsRow base 3 1 (.slice A n c) n (intsV L)) (k : Nat) (h1 : 1 ≤ k) (h2 : k ≤ n) : (∃ g, A = some ⟨g, 0, none⟩) ∧ n ≤ c ∧ w.ownsRow base 3 1 (.slice A k c) k (intsV (L.take k)) := by
  have hln := h.1
  rcases h.2 with ⟨e, h0⟩ | ⟨g, cap, cur, e, k1, k2, k3, k4, k5, k6⟩
  · omega
  · injection e with e1 e2 e3
    subst e1 e3
    refine ⟨⟨g, rfl⟩, k3, ?_, .inr ⟨g, c, cur, rfl, k1, k2, by omega, k4, k5, ?_⟩⟩
    · rw [len_intsV] at hln ⊢
      rw [List.length_take]; omega
    · have e : intsV (L.take k) = (intsV L).take k := by unfold intsV; rw [List.map_take]
      rw [e, ← k6, Nat.mul_one, Nat.mul_one, List.take_take, Nat.min_eq_left h2]
set_option maxHeartbeats 1600000 in
theorem reffrees_any (A : Option Addr) (n c : Nat) (l : List Vl) (w : World) (h : VolsAt w (.slice A n c) l) (hn : n ≤ 1000000) (hm : ∀ x ∈ l, x.2.length ≤ 1000000) :
    Calls Try.prog 18 #[.slice A n c] w fun e w' => ∃ B cc, e = .returned (.slice B (freeL (usedV l)).length cc) ∧ w'.ownsRow w.heap.size 3 1 (.slice B (freeL (usedV l)).length cc) (freeL (usedV l)).length (intsV (freeL (usedV l))) ∧ Below w.heap.size w w' := by
  have hu := refused_any A n c l w h hn hm
  obtain ⟨u, hu2⟩ : ∃ u, usedV l = u := ⟨_, rfl⟩
  rw [hu2] at hu ⊢
  clear h hn hm hu2
  go_enter Try.func18, Try.ntmps18
  go_wp2_with fail
  refine hu.mono ?_
  rintro e w2 ⟨rfl, rfl⟩
  clear hu
  go_wp2_with fail
  go_loopw [4, 5] (fun v i wr => ∃ b K : Nat, b ≤ 12 ∧ (freeB u b).length = K ∧ i = .int .i64 b ∧ wr.ownsRow w.heap.size 3 1 v K (intsV (freeB u b)) ∧ Below w.heap.size w wr) (fun _ i _ => 12 - (intOf i).toNat)
  case atStart => exact ⟨0, 0, by omega, rfl, rfl, ⟨rfl, .inl ⟨rfl, rfl⟩⟩, Below.refl _ _⟩
  case round =>
    obtain ⟨b, K, hb, hKL, rfl, ho, hbl⟩ := hrel
    obtain ⟨B, cc, rfl, hcc⟩ := own_slice_form ho
    have HK := Lib.hid hKL
    have HK12 : Hid (K ≤ 12) := Lib.hid (by rw [← hKL]; exact Nat.le_trans (freeB_len u b) hb)
    have HO := Lib.hid ho
    have HBL := Lib.hid hbl
    have hcK := hcc
    clear hKL ho hbl hcc
    by_cases hb12 : b < 12
    · have hdd : decide ((b : Int) < 12) = true := decide_eq_true (by omega)
      have hsh := bit_shr u b
      have hADD := freeB_add u b
      obtain ⟨q, hq⟩ : ∃ q, u.getLsbD b = q := ⟨_, rfl⟩
      rw [hq] at hsh hADD
      have HAD := Lib.hid hADD
      clear hq hADD
      cases q with
      | true =>
        have hsh : bits .and .u16 (hd u / (2 : Int) ^ b) 1 = 1 := hsh
        have HAD2 : Hid (freeB u (b + 1) = freeB u b) := Lib.hid (by rw [HAD.out]; exact List.append_nil _)
        go_wp2_with fail
        refine ⟨⟨b + 1, K, by omega, by rw [HAD2.out]; exact HK.out, by go_num, by rw [HAD2.out]; exact HO.out, HBL.out⟩, by simp [intOf]; omega⟩
      | false =>
        have hsh : bits .and .u16 (hd u / (2 : Int) ^ b) 1 = 0 := hsh
        have HAD2 : Hid (freeB u (b + 1) = freeB u b ++ [(b : Int)]) := Lib.hid HAD.out
        have HI1 := Lib.hid (ints_one wr (b : Int) (by omega))
        have HAL : Hid (Below w.heap.size w (wr.alloc (.cells #[.int .i64 b] 3))) := Lib.hid (HBL.out.alloc HBL.out.size _)
        have HOA : Hid ((wr.alloc (.cells #[.int .i64 b] 3)).ownsRow w.heap.size 3 1 (.slice B K cc) K (intsV (freeB u b))) := Lib.hid (own_chg HO.out ((Chg.refl (fun _ => False) wr).alloc _) (fun _ _ h => h))
        go_wp2_with (first | ((with_reducible refine wpList_plain ?_ ?_); exact rfl; intro KK hKK; refine wp_append_ints (.tmp 18) (.tmp 20) rfl w.heap.size _ K (freeB u b) rfl HOA.out _ 1 1 [(b : Int)] rfl HI1.out (by have := HK12.out; omega) HAL.out.size (fun kv w5 own1 hb5 => hKK _ _ ?_); clear hKK KK; have HB5 := Lib.hid (HAL.out.trans hb5); have HO5 := Lib.hid own1; clear own1 hb5))
        refine ⟨⟨b + 1, K + 1, by omega, by rw [HAD2.out, List.length_append, HK.out]; rfl, by go_num, by rw [HAD2.out]; exact HO5.out, HB5.out⟩, by simp [intOf]; omega⟩
    · obtain rfl : b = 12 := by omega
      have hdd : decide (((12 : Nat) : Int) < 12) = false := by decide
      go_wp2_with fail
      go_ret
      have e : (freeL u).length = K := by rw [← freeB_12]; exact HK.out
      exact ⟨B, cc, by rw [e]; rfl, by rw [e, ← freeB_12]; exact HO.out, HBL.out⟩
theorem reffree_any (A : Option Addr) (n c : Nat) (l : List Vl) (w : World) (h : VolsAt w (.slice A n c) l) (hn : n ≤ 1000000) (hm : ∀ x ∈ l, x.2.length ≤ 1000000) :
    Calls Try.prog 15 #[.slice A n c] w fun e w' => e = .returned (.int .i64 ((freeL (usedV l)).length : Int)) ∧ Below w.heap.size w w' := by
  have hf := reffrees_any A n c l w h hn hm
  obtain ⟨N, hN⟩ : ∃ N, (freeL (usedV l)).length = N := ⟨_, rfl⟩
  rw [hN] at hf ⊢
  clear h hn hm
  go_enter Try.func15, Try.ntmps15
  go_wp2_with fail
  refine hf.mono ?_
  rintro e w2 ⟨B, cc, rfl, _, hb⟩
  clear hf
  go_wp2_with fail
  go_ret
  exact ⟨rfl, hb⟩
set_option maxHeartbeats 1600000 in
theorem reftake_any (n : Int) (A : Option Addr) (m c : Nat) (l : List Vl) (w : World) (h : VolsAt w (.slice A m c) l) (hn : m ≤ 1000000) (hm : ∀ x ∈ l, x.2.length ≤ 1000000) :
    Calls Try.prog 11 #[.int .i64 n, .slice A m c] w fun e w' => ∃ v, e = .returned (.tuple #[v, .int .i64 (takeE (usedV l) n)]) ∧ w'.ownsRow w.heap.size 3 1 v (takeV (usedV l) n).length (intsV (takeV (usedV l) n)) ∧ Below w.heap.size w w' := by
  have HFR := Lib.hid (reffrees_any A m c l w h hn hm)
  obtain ⟨u, hu⟩ : ∃ u, usedV l = u := ⟨_, rfl⟩
  rw [hu] at HFR ⊢
  clear h hn hm hu
  by_cases h1 : n < 1
  · have hd1 : decide (n < 1) = true := decide_eq_true h1
    have hE : takeE u n = 1 := if_pos (.inl h1)
    have hV : takeV u n = [] := if_pos (.inl h1)
    rw [hE, hV]
    clear h1 hE hV
    go_enter Try.func11, Try.ntmps11
    go_wp2_with fail
    go_ret2
    exact ⟨_, rfl, ⟨rfl, .inl ⟨rfl, rfl⟩⟩, Below.refl _ _⟩
  have hd1 : decide (n < 1) = false := decide_eq_false h1
  by_cases h4 : 4 < n
  · have hd4 : decide (4 < n) = true := decide_eq_true h4
    have hE : takeE u n = 1 := if_pos (.inr h4)
    have hV : takeV u n = [] := if_pos (.inr (.inl h4))
    rw [hE, hV]
    clear h1 hE hV h4
    go_enter Try.func11, Try.ntmps11
    go_wp2_with fail
    go_ret2
    exact ⟨_, rfl, ⟨rfl, .inl ⟨rfl, rfl⟩⟩, Below.refl _ _⟩
  have hd4 : decide (4 < n) = false := decide_eq_false h4
  obtain ⟨N, rfl⟩ : ∃ N : Nat, n = N := ⟨n.toNat, by omega⟩
  obtain ⟨F, hF⟩ : ∃ F, freeL u = F := ⟨_, rfl⟩
  obtain ⟨Z, hZ⟩ : ∃ Z, F.length = Z := ⟨_, rfl⟩
  have hfr := HFR.out
  rw [hF, hZ] at hfr
  clear HFR
  by_cases hf : (Z : Int) < N
  · have hdf : decide (Z < N) = true := decide_eq_true (by omega)
    have hdf2 : decide ((Z : Int) < (N : Int)) = true := decide_eq_true hf
    have hE : takeE u N = 18 := by unfold takeE; rw [if_neg (by omega), if_pos (by rw [hF, hZ]; exact hf)]
    have hV : takeV u N = [] := if_pos (.inr (.inr (by rw [hF, hZ]; exact hf)))
    rw [hE, hV]
    clear h1 hE hV h4 hf hF hZ
    go_enter Try.func11, Try.ntmps11
    go_wp2_with fail
    refine hfr.mono ?_
    rintro e w2 ⟨B, cc, rfl, _, hb⟩
    clear hfr
    go_wp2_with fail
    go_ret2
    exact ⟨_, rfl, ⟨rfl, .inl ⟨rfl, rfl⟩⟩, hb⟩
  have hdf : decide (Z < N) = false := decide_eq_false (by omega)
  have hdf2 : decide ((Z : Int) < (N : Int)) = false := decide_eq_false hf
  have hE : takeE u N = 0 := by unfold takeE; rw [if_neg (by omega), if_neg (by rw [hF, hZ]; exact hf)]
  have hV : takeV u N = F.take N := by unfold takeV; rw [if_neg (by rw [hF, hZ]; omega), hF]; rfl
  have hVl : (F.take N).length = N := by rw [List.length_take]; omega
  rw [hE, hV, hVl]
  have HN : Hid (1 ≤ N ∧ N ≤ Z) := Lib.hid (by omega)
  have hNZ : N ≤ Z := HN.out.2
  clear hE hV h1 h4 hf hVl hF hZ
  go_enter Try.func11, Try.ntmps11
  go_wp2_with fail
  refine hfr.mono ?_
  rintro e w2 ⟨B, cc, rfl, ho, hb⟩
  obtain ⟨⟨g, rfl⟩, hcc, ho2⟩ := own_takeI ho N HN.out.1 HN.out.2
  have HO := Lib.hid ho2
  have hNc : N ≤ cc := by omega
  clear hfr ho ho2
  go_wp2_with fail
  go_ret2
  exact ⟨_, rfl, HO.out, hb⟩
end Go.Proofs.Ytkfccdjeohbngaa
