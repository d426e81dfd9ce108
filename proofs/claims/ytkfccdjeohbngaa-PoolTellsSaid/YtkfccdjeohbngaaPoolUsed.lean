/- Which blocks volumes use: the program's Used. -/
import Derived.Test.YtkfccdjeohbngaaVols
import Derived.Test.YtkfccdjeohbngaaHalf
import Derived.Deep.Cut
set_option maxRecDepth 4000
namespace Go.Proofs.Ytkfccdjeohbngaa
open Go Go.RowKit
def bitI (b : Int) : BitVec 16 := if 0 ≤ b ∧ b < 12 then 1#16 <<< b.toNat else 0#16
def useL (u : BitVec 16) (L : List Int) : BitVec 16 := L.foldl (fun u b => u ||| bitI b) u
def usedV (l : List Vl) : BitVec 16 := l.foldl (fun u x => useL u x.2) 1#16
theorem size_vol : (Try.prog.info? 42).map (·.size) = some 2 := by kernel_rfl
theorem useL_take {u : BitVec 16} {L : List Int} {k : Nat} {b : Int} (h : L[k]? = some b) : useL u (L.take (k + 1)) = useL u (L.take k) ||| bitI b := by
  obtain ⟨hk, rfl⟩ := List.getElem?_eq_some_iff.1 h
  unfold useL
  rw [List.take_add_one, List.getElem?_eq_getElem hk, List.foldl_append]; rfl
theorem usedV_take {l : List Vl} {k : Nat} {x : Vl} (h : l[k]? = some x) : usedV (l.take (k + 1)) = useL (usedV (l.take k)) x.2 := by
  obtain ⟨hk, rfl⟩ := List.getElem?_eq_some_iff.1 h
  unfold usedV
  rw [List.take_add_one, List.getElem?_eq_getElem hk, List.foldl_append]; rfl
set_option maxHeartbeats 3200000 in
theorem used_any (A : Option Addr) (n c : Nat) (l : List Vl) (w : World) (h : VolsAt w (.slice A n c) l) (hn : n ≤ 1000000) (hm : ∀ x ∈ l, x.2.length ≤ 1000000) :
    Calls Try.prog 12 #[.slice A n c] w fun e w' => e = .returned (.int .u16 (hd (usedV l))) ∧ Below w.heap.size w w' := by
  have hln := vols_len h
  have HF := Lib.hid (fun k (hk : k < l.length) => vols_get h hk)
  have HLN := Lib.hid hln
  have HM := Lib.hid hm
  clear h hln hm
  go_enter Try.func12, Try.ntmps12
  go_wp2_with fail
  go_loopw [3, 10] (fun u i wr => ∃ k : Nat, k ≤ n ∧ i = .int .i64 k ∧ u = .int .u16 (hd (usedV (l.take k))) ∧ Below w.heap.size w wr) (fun _ i _ => n - (intOf i).toNat)
  case atStart => exact ⟨0, by omega, rfl, rfl, Below.refl _ _⟩
  case round =>
    obtain ⟨k, hk, rfl, rfl, hb⟩ := hrel
    have HB := Lib.hid hb
    clear hb
    by_cases hlt : k < n
    · obtain ⟨b, o, s0, L, B, m, c1, hx, rfl, hbw, hr, hi, hlm, _⟩ := HF.out k (by rw [HLN.out]; exact hlt)
      obtain ⟨O, hO⟩ : ∃ O, o + k * 2 = O := ⟨_, rfl⟩
      rw [hO] at hr
      have hm6 : m ≤ 1000000 := by rw [← hlm]; exact HM.out _ (List.mem_of_getElem? hx)
      have HR : Hid (wr.rangeAt b O [.string s0, .slice B m c1]) := Lib.hid fun j v hv => (HB.out.cell (p := ⟨b, O + j, none⟩) hbw).trans (hr j v hv)
      have HI := Lib.hid (hi.below HB.out (Nat.le_refl _))
      have HLM := Lib.hid hlm
      have HU1 := Lib.hid (usedV_take hx)
      obtain ⟨U0, hU0⟩ : ∃ U0, usedV (l.take k) = U0 := ⟨_, rfl⟩
      rw [hU0] at HU1 ⊢
      have hk0 : (0 : Int) ≤ (k : Int) := by omega
      have hk1 : (k : Int) < (n : Int) := by omega
      clear hx hr hi hlm hU0 hbw
      have HS := St.nil wr noF
      go_upto_region 5 with (first | ((with_reducible refine wpList_plain ?_ ?_); exact rfl; intro KK hKK; refine wp_load_mid 42 (.tmp 12) rfl b O rfl [.string s0, .slice B m c1] _ HR.out Try.underlying42 rfl (by exact size_vol) (hKK _ _ ?_); clear hKK KK) | ((with_reducible refine wpList_plain ?_ ?_); exact rfl; intro KK hKK; refine wp_st_alloc HS 42 (#[.string ⟨#[]⟩, .slice none 0 0]) rfl (.agg (#[.string ⟨#[]⟩, .slice none 0 0])) (by kernel_rfl) (rfl) (fun g5 W1 HSx => hKK _ _ ?_); clear hKK KK HS; have HS : St wr noF [⟨g5, 42, #[.string ⟨#[]⟩, .slice none 0 0]⟩] W1 := HSx; clear HSx) | ((with_reducible refine wpList_plain ?_ ?_); exact rfl; intro KK hKK; refine wp_st_store HS 0 0 42 (.tmp 5) (.tmp 13) rfl rfl rfl (.agg #[.string s0, .slice B m c1]) rfl (by exact size_vol) (Nat.le_refl 2) (by simp [Value.cells, Value.oneCell']) (#[.string s0, .slice B m c1]) (by exact spl_agg _ _ _ rfl rfl) (fun W2 HSx => hKK _ _ ?_); clear hKK KK HS; have HS : St wr noF [⟨g5, 42, #[.string s0, .slice B m c1]⟩] W2 := HSx; clear HSx))
      clear hk0 hk1 hO
      have HW := Lib.hid HS.below
      have hcd : W2.cell? ⟨g5, 1, none⟩ = some (.slice B m c1) := (HS.row 0 rfl).get rfl
      have HIW := Lib.hid (HI.out.below HS.below (Nat.le_refl _))
      clear HS
      go_wp2_with fail
      clear hcd
      go_loopw [3, 17] (fun u i wr' => ∃ j : Nat, j ≤ m ∧ i = .int .i64 j ∧ u = .int .u16 (hd (useL U0 (L.take j))) ∧ W2 = wr') (fun _ i _ => m - (intOf i).toNat)
      case atStart => exact ⟨0, by omega, rfl, rfl, rfl⟩
      case round =>
        obtain ⟨j, hj, rfl, rfl, rfl⟩ := hrel
        obtain ⟨U, hU⟩ : ∃ U, useL U0 (L.take j) = U := ⟨_, rfl⟩
        rw [hU]
        have HU := Lib.hid hU
        clear hU
        by_cases hlt2 : j < m
        · obtain ⟨b2, o2, x, hx, rfl, hb2, hc2, _⟩ := ints_get HIW.out (k := j) (by rw [HLM.out]; exact hlt2)
          obtain ⟨O2, hO2⟩ : ∃ O, o2 + j = O := ⟨_, rfl⟩
          rw [hO2] at hc2
          have HX := Lib.hid hx
          have HUJ : Hid (∀ x, L[j]? = some x → useL U0 (L.take (j + 1)) = useL U0 (L.take j) ||| bitI x) := Lib.hid (fun x hx => useL_take hx)
          have hj0 : (0 : Int) ≤ (j : Int) := by omega
          have hj1 : (j : Int) < (m : Int) := by omega
          clear hx hb2
          by_cases hx0 : 0 ≤ x
          case neg =>
            have hd : decide ((0 : Int) ≤ x) = false := decide_eq_false hx0
            have hbz : bitI x = 0#16 := by unfold bitI; rw [if_neg (by omega)]
            have HBZ := Lib.hid hbz
            clear hbz hx0
            go_wp2_with fail
            exact ⟨⟨j + 1, by omega, by go_num, by rw [HUJ.out _ HX.out, HU.out, HBZ.out, BitVec.or_zero], by first | rfl | trivial⟩, by simp [intOf]; omega⟩
          by_cases hx12 : x < 12
          case neg =>
            have hd0 : decide ((0 : Int) ≤ x) = true := decide_eq_true hx0
            have hd : decide (x < 12) = false := decide_eq_false hx12
            have hbz : bitI x = 0#16 := by unfold bitI; rw [if_neg (by omega)]
            have HBZ := Lib.hid hbz
            clear hbz hx0 hx12
            go_wp2_with fail
            exact ⟨⟨j + 1, by omega, by go_num, by rw [HUJ.out _ HX.out, HU.out, HBZ.out, BitVec.or_zero], by first | rfl | trivial⟩, by simp [intOf]; omega⟩
          obtain rfl | rfl | rfl | rfl | rfl | rfl | rfl | rfl | rfl | rfl | rfl | rfl : x = 0 ∨ x = 1 ∨ x = 2 ∨ x = 3 ∨ x = 4 ∨ x = 5 ∨ x = 6 ∨ x = 7 ∨ x = 8 ∨ x = 9 ∨ x = 10 ∨ x = 11 := by omega
          · have hor : bits .or .u16 (hd U) 1 = hd (U ||| 1#16) := or_hd U 1#16
            go_wp2_with fail
            exact ⟨⟨j + 1, by omega, by go_num, by rw [HUJ.out _ HX.out, HU.out]; rfl, by first | rfl | trivial⟩, by simp [intOf]; omega⟩
          · have hor : bits .or .u16 (hd U) 2 = hd (U ||| 2#16) := or_hd U 2#16
            go_wp2_with fail
            exact ⟨⟨j + 1, by omega, by go_num, by rw [HUJ.out _ HX.out, HU.out]; rfl, by first | rfl | trivial⟩, by simp [intOf]; omega⟩
          · have hor : bits .or .u16 (hd U) 4 = hd (U ||| 4#16) := or_hd U 4#16
            go_wp2_with fail
            exact ⟨⟨j + 1, by omega, by go_num, by rw [HUJ.out _ HX.out, HU.out]; rfl, by first | rfl | trivial⟩, by simp [intOf]; omega⟩
          · have hor : bits .or .u16 (hd U) 8 = hd (U ||| 8#16) := or_hd U 8#16
            go_wp2_with fail
            exact ⟨⟨j + 1, by omega, by go_num, by rw [HUJ.out _ HX.out, HU.out]; rfl, by first | rfl | trivial⟩, by simp [intOf]; omega⟩
          · have hor : bits .or .u16 (hd U) 16 = hd (U ||| 16#16) := or_hd U 16#16
            go_wp2_with fail
            exact ⟨⟨j + 1, by omega, by go_num, by rw [HUJ.out _ HX.out, HU.out]; rfl, by first | rfl | trivial⟩, by simp [intOf]; omega⟩
          · have hor : bits .or .u16 (hd U) 32 = hd (U ||| 32#16) := or_hd U 32#16
            go_wp2_with fail
            exact ⟨⟨j + 1, by omega, by go_num, by rw [HUJ.out _ HX.out, HU.out]; rfl, by first | rfl | trivial⟩, by simp [intOf]; omega⟩
          · have hor : bits .or .u16 (hd U) 64 = hd (U ||| 64#16) := or_hd U 64#16
            go_wp2_with fail
            exact ⟨⟨j + 1, by omega, by go_num, by rw [HUJ.out _ HX.out, HU.out]; rfl, by first | rfl | trivial⟩, by simp [intOf]; omega⟩
          · have hor : bits .or .u16 (hd U) 128 = hd (U ||| 128#16) := or_hd U 128#16
            go_wp2_with fail
            exact ⟨⟨j + 1, by omega, by go_num, by rw [HUJ.out _ HX.out, HU.out]; rfl, by first | rfl | trivial⟩, by simp [intOf]; omega⟩
          · have hor : bits .or .u16 (hd U) 256 = hd (U ||| 256#16) := or_hd U 256#16
            go_wp2_with fail
            exact ⟨⟨j + 1, by omega, by go_num, by rw [HUJ.out _ HX.out, HU.out]; rfl, by first | rfl | trivial⟩, by simp [intOf]; omega⟩
          · have hor : bits .or .u16 (hd U) 512 = hd (U ||| 512#16) := or_hd U 512#16
            go_wp2_with fail
            exact ⟨⟨j + 1, by omega, by go_num, by rw [HUJ.out _ HX.out, HU.out]; rfl, by first | rfl | trivial⟩, by simp [intOf]; omega⟩
          · have hor : bits .or .u16 (hd U) 1024 = hd (U ||| 1024#16) := or_hd U 1024#16
            go_wp2_with fail
            exact ⟨⟨j + 1, by omega, by go_num, by rw [HUJ.out _ HX.out, HU.out]; rfl, by first | rfl | trivial⟩, by simp [intOf]; omega⟩
          · have hor : bits .or .u16 (hd U) 2048 = hd (U ||| 2048#16) := or_hd U 2048#16
            go_wp2_with fail
            exact ⟨⟨j + 1, by omega, by go_num, by rw [HUJ.out _ HX.out, HU.out]; rfl, by first | rfl | trivial⟩, by simp [intOf]; omega⟩
        · obtain rfl : j = m := by omega
          have hUU : usedV (l.take (k + 1)) = U := by rw [HU1.out, ← HU.out, List.take_of_length_le (by rw [HLM.out]; exact Nat.le_refl _)]
          have HUU := Lib.hid hUU
          clear hUU
          go_wp2_with fail
          exact ⟨⟨k + 1, by omega, by go_num, by rw [HUU.out], HB.out.trans (HW.out.mono HB.out.size)⟩, by simp [intOf]; omega⟩
    · obtain rfl : k = n := by omega
      have hT : l.take k = l := List.take_of_length_le (by rw [HLN.out]; exact Nat.le_refl _)
      rw [hT]
      go_wp2_with fail
      go_ret
      exact ⟨rfl, HB.out⟩
end Go.Proofs.Ytkfccdjeohbngaa
