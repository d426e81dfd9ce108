/- The statement FatesOrder: its walk. -/
import Derived.Test.YtlncdokeecmnjaaFtBits
import Derived.Test.YtlncdokeecmnjaaLowC
set_option maxRecDepth 4000
namespace Go.Proofs.Ytlncdokeecmnjaa
open Go Go.RowKit
def nib (x : BitVec 8) : Int := ((x &&& 15#8).toNat : Int)
def nibs (q : List (BitVec 8)) : List Int := q.map nib
theorem nib_lt (x : BitVec 8) : 0 ≤ nib x ∧ nib x < 16 := by
  have := (fb_low x).2.2.2.2.2
  unfold nib
  omega
theorem nib_sum : ∀ x : BitVec 8, nib x = (if fb (nib x) 1 then 1 else 0) + (if fb (nib x) 2 then 2 else 0) + (if fb (nib x) 4 then 4 else 0) + (if fb (nib x) 8 then 8 else 0) := by decide +kernel
def psum (b0 b1 b2 b3 : Bool) : Nat → Int
  | 0 => 0
  | 1 => if b0 then 1 else 0
  | 2 => (if b0 then 1 else 0) + (if b1 then 2 else 0)
  | 3 => (if b0 then 1 else 0) + (if b1 then 2 else 0) + (if b2 then 4 else 0)
  | _ => (if b0 then 1 else 0) + (if b1 then 2 else 0) + (if b2 then 4 else 0) + (if b3 then 8 else 0)
theorem psum_lt (b0 b1 b2 b3 : Bool) (m : Nat) : 0 ≤ psum b0 b1 b2 b3 m ∧ psum b0 b1 b2 b3 m < 16 := by
  unfold psum
  split <;> cases b0 <;> cases b1 <;> cases b2 <;> cases b3 <;> simp
theorem none_nib (x : BitVec 8) : anyNone [nib x] = false := by
  have := nib_lt x
  unfold anyNone noneB
  simp
  omega
theorem nibs_get {q : List (BitVec 8)} {k : Nat} (hk : k < q.length) : (nibs q)[k]? = some (nib (q.getD k 0#8)) := by
  unfold nibs
  rw [List.getElem?_map, List.getD_eq_getElem?_getD, List.getElem?_eq_getElem hk]; rfl
theorem nibs_take {q : List (BitVec 8)} {k : Nat} (hk : k < q.length) : (nibs q).take (k + 1) = (nibs q).take k ++ [nib (q.getD k 0#8)] := by
  rw [List.take_add_one, nibs_get hk]; rfl
theorem nibs_drop {q : List (BitVec 8)} {k : Nat} (hk : k < q.length) (h64 : k < 64) : ((nibs q).take 64).drop k = nib (q.getD k 0#8) :: ((nibs q).take 64).drop (k + 1) := by
  have h := nibs_get hk
  obtain ⟨h1, h2⟩ := List.getElem?_eq_some_iff.1 h
  rw [List.drop_eq_getElem_cons (by rw [List.length_take]; omega), List.getElem_take, h2]
set_option maxHeartbeats 3200000 in
theorem ftorder_walk (A : Option Addr) (c : Nat) (q : List (BitVec 8)) (w : World) (hs : Slice w (.slice A q.length c) q) (_ : A = none → c = 0) (_ : q.length ≤ maxLen) :
    Calls Try.prog 4 #[.slice A q.length c] w fun e w' => e = .returned (.bool true) ∧ Below w.heap.size w w' := by
  obtain ⟨n, hn⟩ : ∃ n, q.length = n := ⟨_, rfl⟩
  rw [hn] at hs ⊢
  have HN := Lib.hid hn
  have HS0 := Lib.hid hs
  clear hn hs
  by_cases hbig : 150 < n
  · have hd : decide (150 < (n : Int)) = true := decide_eq_true (by omega)
    clear hbig
    go_enter Try.func4, Try.ntmps4
    go_wp2_with fail
    refine (ftwakes_any w).mono ?_
    rintro x9 w99 ⟨rfl, hb9⟩
    go_wp2_with fail
    go_ret
    exact ⟨rfl, (Below.refl w.heap.size w).trans (hb9.mono (Below.refl w.heap.size w).size)⟩
  have hd : decide (150 < (n : Int)) = false := decide_eq_false (by omega)
  have HS := St.nil w noF
  go_enter Try.func4, Try.ntmps4
  go_upto_region 3 with fail
  clear hd
  go_upto_region 4 with (first | ((with_reducible refine wpList_plain ?_ ?_); exact rfl; intro KK hKK; refine wp_st_box HS 27 (.tmp 15) rfl _ rfl (#[.slice none 0 0]) (rfl) (fun g1 W1 HSx => hKK _ _ ?_); clear hKK KK HS; have HS : St w noF [⟨g1, 27, #[.slice none 0 0]⟩] W1 := HSx; clear HSx))
  have HG : Hid (w.heap.size ≤ g1) := Lib.hid ((HS.own 0 _ rfl).resolve_left (fun h => h))
  have HB0 := Lib.hid HS.below
  have HF0 : Hid (FatAt W1 g1 []) := Lib.hid ⟨none, 0, 0, HS.row 0 rfl, none, 0, rfl, Nat.le_refl _, fun _ => rfl, by decide, fun h => absurd rfl h⟩
  clear HS
  go_wp2_with fail
  go_loopw [4] (fun i wr => ∃ k : Nat, k ≤ n ∧ i = .int .i64 k ∧ Below w.heap.size w wr ∧ FatAt wr g1 ((nibs q).take (min k 64))) (fun i _ => n - (intOf i).toNat)
  case atStart => exact ⟨0, by omega, rfl, HB0.out, HF0.out⟩
  case round =>
    obtain ⟨k, hk, rfl, hb, hfa⟩ := hrel
    have HB := Lib.hid hb
    have HFA := Lib.hid hfa
    clear hb hfa HB0 HF0
    by_cases hlt : k < n
    · obtain ⟨gb, ob, hA, hba, _⟩ := slice_bat HS0.out (by rw [HN.out]; omega)
      subst hA
      obtain ⟨x, hx⟩ : ∃ x, q.getD k 0#8 = x := ⟨_, rfl⟩
      obtain ⟨v, hv⟩ : ∃ v, nib x = v := ⟨_, rfl⟩
      have hcell : wr.cell? ⟨gb, ob + k, none⟩ = some (.int .u8 (bd x)) := by
        have h := hba.get k (by rw [HN.out]; exact hlt)
        rw [hx] at h
        exact (HB.out.cell (p := ⟨gb, ob + k, none⟩) (hba.lt)).trans h
      have hm : (bd x).tmod 16 = v := by rw [(fb_low x).2.2.2.2.1, ← hv]; rfl
      have HV : Hid (0 ≤ v ∧ v < 16) := Lib.hid (by rw [← hv]; exact nib_lt x)
      have hw8 : IntKind.u8.wrap v = v := by have := HV.out; rw [IntKind.wrap_u8']; omega
      have hw64 : IntKind.i64.wrap v = v := by have := HV.out; exact i64_id _ (by omega) (by omega)
      have hk0 : (0 : Int) ≤ (k : Int) := by omega
      have hk1 : (k : Int) < (n : Int) := by omega
      have hlq : k < q.length := by rw [HN.out]; exact hlt
      have hnl : (nibs q).length = n := by unfold nibs; rw [List.length_map, HN.out]
      obtain ⟨M, hM⟩ : ∃ M, (nibs q).take (min k 64) = M := ⟨_, rfl⟩
      have hMl : M.length = min k 64 := by rw [← hM, List.length_take, hnl]; omega
      have HML : Hid (M.length ≤ 64) := Lib.hid (by omega)
      rw [hM] at HFA
      have hnn : anyNone [v] = false := by rw [← hv]; exact none_nib x
      by_cases h64 : k < 64
      · have hd : decide (64 ≤ (k : Int)) = false := decide_eq_false (by omega)
        have HAE : Hid (addE M [v] = 0) := Lib.hid (by unfold addE; rw [hnn, hMl]; simp; omega)
        have HAL : Hid (addL M [v] = M ++ [v]) := Lib.hid (by unfold addL; rw [hnn, hMl]; simp; omega)
        have HMN : Hid (M ++ [v] = (nibs q).take (min (k + 1) 64)) := Lib.hid (by
          rw [show min (k + 1) 64 = k + 1 by omega, nibs_take hlq, hx, hv, ← hM, show min k 64 = k by omega])
        clear hx hv hlq hnl hM hMl hnn hba h64
        have hal : Below wr.heap.size wr (wr.alloc (.cells #[.int .i64 v] 3)) := (Below.refl _ _).alloc (Nat.le_refl _) _
        have hown : (wr.alloc (.cells #[.int .i64 v] 3)).ownsRow wr.heap.size 3 1 (.slice (some ⟨wr.heap.size, 0, none⟩) 1 1) 1 (intsV [v]) := ⟨rfl, .inr ⟨wr.heap.size, 1, _, rfl, Nat.le_refl _, heap_alloc_new wr _, Nat.le_refl _, by decide, rfl, rfl⟩⟩
        have CA := add_any g1 M (some ⟨wr.heap.size, 0, none⟩) 1 1 [v] (wr.alloc (.cells #[.int .i64 v] 3)) (HFA.out.call hal) (ints_own hown (fun y hy => by rw [List.mem_singleton.1 hy]; have := HV.out; omega)) (by decide) HML.out
        rw [HAE.out, HAL.out] at CA
        have HBA := Lib.hid (HB.out.trans (hal.mono HB.out.size))
        clear hal hown
        go_wp2_with fail
        refine CA.mono ?_
        rintro e w5 ⟨rfl, hfa, hch⟩
        have HF5 := Lib.hid hfa
        have HB5 := Lib.hid (HBA.out.trans (chg_belowF hch HG.out HBA.out.size))
        clear CA hfa hch
        go_wp2_with fail
        exact ⟨⟨k + 1, by omega, by go_num, HB5.out, by have := HMN.out; rw [← this]; exact HF5.out⟩, by simp [intOf]; omega⟩
      · have hd : decide (64 ≤ (k : Int)) = true := decide_eq_true (by omega)
        have HAE : Hid (addE M [v] = 19) := Lib.hid (by unfold addE; rw [hnn, hMl]; simp; omega)
        have HAL : Hid (addL M [v] = M) := Lib.hid (by unfold addL; rw [hnn, hMl]; simp; omega)
        have HMN : Hid (M = (nibs q).take (min (k + 1) 64)) := Lib.hid (by rw [← hM, show min (k + 1) 64 = min k 64 by omega])
        clear hx hv hlq hnl hM hMl hnn hba h64
        have hal : Below wr.heap.size wr (wr.alloc (.cells #[.int .i64 v] 3)) := (Below.refl _ _).alloc (Nat.le_refl _) _
        have hown : (wr.alloc (.cells #[.int .i64 v] 3)).ownsRow wr.heap.size 3 1 (.slice (some ⟨wr.heap.size, 0, none⟩) 1 1) 1 (intsV [v]) := ⟨rfl, .inr ⟨wr.heap.size, 1, _, rfl, Nat.le_refl _, heap_alloc_new wr _, Nat.le_refl _, by decide, rfl, rfl⟩⟩
        have CA := add_any g1 M (some ⟨wr.heap.size, 0, none⟩) 1 1 [v] (wr.alloc (.cells #[.int .i64 v] 3)) (HFA.out.call hal) (ints_own hown (fun y hy => by rw [List.mem_singleton.1 hy]; have := HV.out; omega)) (by decide) HML.out
        rw [HAE.out, HAL.out] at CA
        have HBA := Lib.hid (HB.out.trans (hal.mono HB.out.size))
        clear hal hown
        go_wp2_with fail
        refine CA.mono ?_
        rintro e w5 ⟨rfl, hfa, hch⟩
        have HF5 := Lib.hid hfa
        have HB5 := Lib.hid (HBA.out.trans (chg_belowF hch HG.out HBA.out.size))
        clear CA hfa hch
        go_wp2_with fail
        exact ⟨⟨k + 1, by omega, by go_num, HB5.out, by have := HMN.out; rw [← this]; exact HF5.out⟩, by simp [intOf]; omega⟩
    · obtain rfl : k = n := by omega
      have HF1 : Hid (FatAt wr g1 ((nibs q).take 64)) := Lib.hid (by
        have h := HFA.out
        by_cases h64 : k ≤ 64
        · rw [show min k 64 = k by omega] at h
          rw [List.take_of_length_le (by unfold nibs; rw [List.length_map, HN.out]; exact h64)]
          rw [List.take_of_length_le (by unfold nibs; rw [List.length_map, HN.out]; exact Nat.le_refl _)] at h
          exact h
        · rw [show min k 64 = 64 by omega] at h; exact h)
      clear HFA
      go_upto_region 12 with fail
      go_wp2_with fail
      go_loopw [6] (fun i wr' => ∃ j : Nat, j ≤ min k 64 ∧ i = .int .i64 j ∧ Below w.heap.size w wr' ∧ FatAt wr' g1 (((nibs q).take 64).drop j)) (fun i _ => k - (intOf i).toNat)
      case atStart => exact ⟨0, by omega, rfl, HB.out, by rw [List.drop_zero]; exact HF1.out⟩
      case round =>
        obtain ⟨j, hj, rfl, hb, hfa⟩ := hrel
        clear HB HF1
        have HB := Lib.hid hb
        have HFA := Lib.hid hfa
        clear hb hfa
        by_cases hlt : j < min k 64
        · obtain ⟨gb, ob, hA, hba, _⟩ := slice_bat HS0.out (by rw [HN.out]; omega)
          subst hA
          obtain ⟨x, hx⟩ : ∃ x, q.getD j 0#8 = x := ⟨_, rfl⟩
          obtain ⟨v, hv⟩ : ∃ v, nib x = v := ⟨_, rfl⟩
          have HV : Hid (0 ≤ v ∧ v < 16) := Lib.hid (by rw [← hv]; exact nib_lt x)
          have hlq : j < q.length := by rw [HN.out]; omega
          have HCELL : Hid (∀ W, Below w.heap.size w W → W.cell? ⟨gb, ob + j, none⟩ = some (.int .u8 (bd x))) := Lib.hid (fun W hbW => by
            have h := hba.get j hlq
            rw [hx] at h
            exact (hbW.cell (p := ⟨gb, ob + j, none⟩) (hba.lt)).trans h)
          have HM : Hid ((bd x).tmod 16 = v) := Lib.hid (by rw [(fb_low x).2.2.2.2.1, ← hv]; rfl)
          have hdr := nibs_drop hlq (show j < 64 by omega)
          rw [hx, hv] at hdr
          rw [hdr] at HFA
          obtain ⟨R, hR⟩ : ∃ R, ((nibs q).take 64).drop (j + 1) = R := ⟨_, rfl⟩
          rw [hR] at HFA
          have HRR := Lib.hid hR
          have hsum := nib_sum x
          rw [hv] at hsum
          have CT := take_any g1 (v :: R) wr HFA.out
          rw [show headC (v :: R) = fatC v from rfl, show (v :: R).tail = R from rfl, fatC_pos (show ¬ v < 0 by have := HV.out; omega)] at CT
          generalize fb v 1 = b0 at *
          generalize fb v 2 = b1 at *
          generalize fb v 4 = b2 at *
          generalize fb v 8 = b3 at *
          have HSUM : Hid (psum b0 b1 b2 b3 4 = v) := Lib.hid (by rw [hsum]; rfl)
          have hk0 : (0 : Int) ≤ (j : Int) := by omega
          have hk1 : (j : Int) < (k : Int) := by omega
          have hk2 : (j : Int) < 64 := by omega
          have hk3 : j < k := by omega
          have HKS := Lib.hid (And.intro hk0 (And.intro hk1 hk2))
          clear hx hv hlq hba hdr hR hsum HFA
          go_upto_region 15 with fail
          clear hk0 hk1 hk2
          go_wp2_with fail
          refine CT.mono ?_
          rintro e w3 ⟨rfl, hfa9, hch⟩
          have HB3 := Lib.hid (HB.out.trans (chg_belowF hch HG.out HB.out.size))
          have HFA3 := Lib.hid hfa9
          clear CT hfa9 hch HB
          have HT := St.nil w3 noF
          go_upto_region 16 with (first | ((with_reducible refine wpList_plain ?_ ?_); exact rfl; intro KK hKK; refine wp_st_alloc HT 36 (#[.bool false, .bool false, .bool false, .bool false]) rfl (.agg (#[.bool false, .bool false, .bool false, .bool false])) (by kernel_rfl) (rfl) (fun g7 W6 HSx => hKK _ _ ?_); clear hKK KK HT; have HT : St w3 noF [⟨g7, 36, #[.bool false, .bool false, .bool false, .bool false]⟩] W6 := HSx; clear HSx) | ((with_reducible refine wpList_plain ?_ ?_); exact rfl; intro KK hKK; refine wp_st_store HT 0 0 36 (.tmp 7) (.tmp 47) rfl rfl rfl (.agg (#[.bool b0, .bool b1, .bool b2, .bool b3])) rfl (by exact size_fat) (Nat.le_refl 4) (by simp [Value.cells, Value.oneCell']) (#[.bool b0, .bool b1, .bool b2, .bool b3]) (by exact spl_agg _ _ _ rfl rfl) (fun W7 HSx => hKK _ _ ?_); clear hKK KK HT; have HT : St w3 noF [⟨g7, 36, #[.bool b0, .bool b1, .bool b2, .bool b3]⟩] W7 := HSx; clear HSx))
          have HB4 := Lib.hid (HB3.out.trans (HT.below.mono HB3.out.size))
          have HFA4 := Lib.hid (HFA3.out.call HT.below)
          have HR7 : Hid (Row W7 g7 36 (#[.bool b0, .bool b1, .bool b2, .bool b3])) := Lib.hid (HT.row 0 rfl)
          clear HT HB3 HFA3
          have e0 : W7.cell? ⟨g7, 0, none⟩ = some (.bool b0) := HR7.out.get rfl
          have e1 : W7.cell? ⟨g7, 1, none⟩ = some (.bool b1) := HR7.out.get rfl
          have e2 : W7.cell? ⟨g7, 2, none⟩ = some (.bool b2) := HR7.out.get rfl
          have e3 : W7.cell? ⟨g7, 3, none⟩ = some (.bool b3) := HR7.out.get rfl
          go_wp2_with fail
          go_loopw [8, 57] (fun s i wr' => ∃ m : Nat, m ≤ 4 ∧ i = .int .i64 m ∧ s = .int .i64 (psum b0 b1 b2 b3 m) ∧ W7 = wr') (fun _ i _ => 4 - (intOf i).toNat)
          case atStart => exact ⟨0, by omega, rfl, rfl, rfl⟩
          case round =>
            obtain ⟨m, hm4, rfl, rfl, rfl⟩ := hrel
            clear e0 e1 e2 e3
            obtain ⟨S, hS⟩ : ∃ S, psum b0 b1 b2 b3 m = S := ⟨_, rfl⟩
            rw [hS]
            have hSb : 0 ≤ S ∧ S < 16 := by rw [← hS]; exact psum_lt b0 b1 b2 b3 m
            have HSS := Lib.hid hS
            have hw1 : IntKind.i64.wrap (S + 1) = S + 1 := i64_id _ (by omega) (by omega)
            have hw2 : IntKind.i64.wrap (S + 2) = S + 2 := i64_id _ (by omega) (by omega)
            have hw4 : IntKind.i64.wrap (S + 4) = S + 4 := i64_id _ (by omega) (by omega)
            have hw8 : IntKind.i64.wrap (S + 8) = S + 8 := i64_id _ (by omega) (by omega)
            clear hS hSb
            obtain rfl | rfl | rfl | rfl | rfl : m = 0 ∨ m = 1 ∨ m = 2 ∨ m = 3 ∨ m = 4 := by omega
            · have hix : ∀ w : World, (Instr.index 48 (.agg #[.bool b0, .bool b1, .bool b2, .bool b3]) (.int .i64 0)).run Try.prog w = .ok (.bool b0) w := fun _ => by kernel_rfl
              cases b0
              · go_wp2_with fail
                exact ⟨⟨1, by omega, rfl, by rw [← HSS.out]; simp [psum], by first | rfl | trivial⟩, by simp [intOf]⟩
              · go_wp2_with fail
                exact ⟨⟨1, by omega, rfl, by rw [← HSS.out]; simp [psum], by first | rfl | trivial⟩, by simp [intOf]⟩
            · have hix : ∀ w : World, (Instr.index 48 (.agg #[.bool b0, .bool b1, .bool b2, .bool b3]) (.int .i64 1)).run Try.prog w = .ok (.bool b1) w := fun _ => by kernel_rfl
              cases b1
              · go_wp2_with fail
                exact ⟨⟨2, by omega, rfl, by rw [← HSS.out]; simp [psum], by first | rfl | trivial⟩, by simp [intOf]⟩
              · go_wp2_with fail
                exact ⟨⟨2, by omega, rfl, by rw [← HSS.out]; simp [psum], by first | rfl | trivial⟩, by simp [intOf]⟩
            · have hix : ∀ w : World, (Instr.index 48 (.agg #[.bool b0, .bool b1, .bool b2, .bool b3]) (.int .i64 2)).run Try.prog w = .ok (.bool b2) w := fun _ => by kernel_rfl
              cases b2
              · go_wp2_with fail
                exact ⟨⟨3, by omega, rfl, by rw [← HSS.out]; simp [psum], by first | rfl | trivial⟩, by simp [intOf]⟩
              · go_wp2_with fail
                exact ⟨⟨3, by omega, rfl, by rw [← HSS.out]; simp [psum], by first | rfl | trivial⟩, by simp [intOf]⟩
            · have hix : ∀ w : World, (Instr.index 48 (.agg #[.bool b0, .bool b1, .bool b2, .bool b3]) (.int .i64 3)).run Try.prog w = .ok (.bool b3) w := fun _ => by kernel_rfl
              cases b3
              · go_wp2_with fail
                exact ⟨⟨4, by omega, rfl, by rw [← HSS.out]; simp [psum], by first | rfl | trivial⟩, by simp [intOf]⟩
              · go_wp2_with fail
                exact ⟨⟨4, by omega, rfl, by rw [← HSS.out]; simp [psum], by first | rfl | trivial⟩, by simp [intOf]⟩
            · have hSv : S = v := by rw [← HSS.out]; exact HSUM.out
              subst hSv
              have hm := HM.out
              have hw8' : IntKind.u8.wrap S = S := by have := HV.out; rw [IntKind.wrap_u8']; omega
              have hw64 : IntKind.i64.wrap S = S := by have := HV.out; exact i64_id _ (by omega) (by omega)
              have hcell := HCELL.out _ HB4.out
              obtain ⟨hk0, hk1, hk2⟩ := HKS.out
              clear hw1 hw2 hw4 hw8
              go_wp2_with fail
              exact ⟨⟨j + 1, by omega, by go_num, HB4.out, by rw [HRR.out]; exact HFA4.out⟩, by simp [intOf]; omega⟩
        · have hj : j = min k 64 := by omega
          have hnil : ((nibs q).take 64).drop j = [] := List.drop_of_length_le (by rw [List.length_take]; unfold nibs; rw [List.length_map, HN.out]; omega)
          rw [hnil] at HFA
          clear hnil
          have CT := take_any g1 [] wr HFA.out
          rw [show headC [] = #[.bool false, .bool false, .bool false, .bool false] from rfl, show ([] : List Int).tail = [] from rfl] at CT
          clear HFA
          by_cases h64 : k ≤ 64
          · have hk1 : ¬ (j : Int) < (k : Int) := by omega
            have hk1n : ¬ j < k := by omega
            clear hj h64 hlt
            go_wp2_with fail
            refine CT.mono ?_
            rintro e w3 ⟨rfl, hfa9, hch⟩
            have HB3 := Lib.hid (HB.out.trans (chg_belowF hch HG.out HB.out.size))
            have CL := all_any g1 [] w3 hfa9 (by decide)
            have q9 := fun w => eql_fat false false false false false false false false w
            clear CT hfa9 hch HB
            go_wp2_with fail
            refine CL.mono ?_
            rintro e w4 ⟨v9, rfl, ho, hb⟩
            obtain ⟨A9, c9, rfl, _⟩ := own_slice_form ho
            have HB4 := Lib.hid (HB3.out.trans (hb.mono HB3.out.size))
            clear CL ho hb q9
            go_wp2_with fail
            refine (ftwakes_any w4).mono ?_
            rintro x9 w99 ⟨rfl, hb9⟩
            go_wp2_with fail
            go_ret
            exact ⟨rfl, HB4.out.trans (hb9.mono HB4.out.size)⟩
          · have hk1 : (j : Int) < (k : Int) := by omega
            have hk1n : j < k := by omega
            have hk2 : ¬ (j : Int) < 64 := by omega
            have hk2n : ¬ j < 64 := by omega
            clear hj h64 hlt
            go_wp2_with fail
            refine CT.mono ?_
            rintro e w3 ⟨rfl, hfa9, hch⟩
            have HB3 := Lib.hid (HB.out.trans (chg_belowF hch HG.out HB.out.size))
            have CL := all_any g1 [] w3 hfa9 (by decide)
            have q9 := fun w => eql_fat false false false false false false false false w
            clear CT hfa9 hch HB
            go_wp2_with fail
            refine CL.mono ?_
            rintro e w4 ⟨v9, rfl, ho, hb⟩
            obtain ⟨A9, c9, rfl, _⟩ := own_slice_form ho
            have HB4 := Lib.hid (HB3.out.trans (hb.mono HB3.out.size))
            clear CL ho hb q9
            go_wp2_with fail
            refine (ftwakes_any w4).mono ?_
            rintro x9 w99 ⟨rfl, hb9⟩
            go_wp2_with fail
            go_ret
            exact ⟨rfl, HB4.out.trans (hb9.mono HB4.out.size)⟩
end Go.Proofs.Ytlncdokeecmnjaa
