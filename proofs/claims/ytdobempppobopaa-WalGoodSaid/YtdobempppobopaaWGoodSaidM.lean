/- WalGood: for every list of puts the call returns true and changes nothing that it was handed. Conditions: those of the row. -/
import Derived.Deep.DeepCutAuto
import Derived.Deep.CutBlock
import Derived.Test.YtdobempppobopaaRows
import Derived.Test.YtdobempppobopaaMWal0
import Derived.Test.YtdobempppobopaaMGen0
import Derived.Test.YtdobempppobopaaMGen1
import Derived.Test.YtdobempppobopaaMWal1
/- The statement WalGood: its walk. -/
set_option maxRecDepth 4000
namespace Go.Proofs.Ytdobempppobopaa
open Go Go.RowKit
theorem good_iff (L : List Int) : (∀ k < L.length, okAt L k) ↔ (∀ x ∈ L, 0 ≤ x ∧ x < 12) ∧ L.Nodup := by
  have hget : ∀ i (h : i < L.length), L.getD i 0 = L[i] := fun i h => by rw [List.getD_eq_getElem?_getD, List.getElem?_eq_getElem h]; rfl
  constructor
  · intro h
    refine ⟨fun x hx => ?_, ?_⟩
    · obtain ⟨k, hk, rfl⟩ := List.getElem_of_mem hx
      have := h k hk
      unfold okAt at this
      rw [hget k hk] at this
      exact ⟨this.1, this.2.1⟩
    · refine List.pairwise_iff_getElem.2 fun i j hi hj hij => ?_
      have := (h j hj).2.2 i hij
      rwa [hget i hi, hget j hj] at this
  · rintro ⟨h1, h2⟩ k hk
    have hm := h1 L[k] (List.getElem_mem hk)
    refine ⟨by rw [hget k hk]; exact hm.1, by rw [hget k hk]; exact hm.2, fun i hi => ?_⟩
    rw [hget k hk, hget i (by omega)]
    exact List.pairwise_iff_getElem.1 h2 i k (by omega) hk hi
theorem good_reverse (L : List Int) : goodB L.reverse = goodB L := by
  unfold goodB
  rw [List.length_reverse]
  congr 1
  apply decide_eq_decide.2
  have := good_iff L.reverse
  rw [List.length_reverse] at this
  have hr : L.reverse.Nodup ↔ L.Nodup := List.pairwise_reverse.trans ⟨fun h => h.imp Ne.symm, fun h => h.imp Ne.symm⟩
  rw [this, good_iff L, hr]
  simp only [List.mem_reverse]
def metC (D : Nat → Int) (k : Nat) : Array Value := ((List.range 12).map fun (a : Nat) => Value.bool (decide (∃ j < k, D j = (a : Int)))).toArray
theorem size_metC (D : Nat → Int) (k : Nat) : (metC D k).size = 12 := by simp [metC]
theorem get_metC (D : Nat → Int) (k a : Nat) (ha : a < 12) : (metC D k)[a]? = some (.bool (decide (∃ j < k, D j = (a : Int)))) := by simp [metC, ha]
theorem zeros_met (D : Nat → Int) : (#[.bool false, .bool false, .bool false, .bool false, .bool false, .bool false, .bool false, .bool false, .bool false, .bool false, .bool false, .bool false] : Array Value) = metC D 0 := by simp [metC, List.range_succ]
theorem set_metC (D : Nat → Int) (k a : Nat) (ha : D k = (a : Int)) : (metC D k).setIfInBounds a (.bool true) = metC D (k + 1) := by
  apply Array.ext_getElem?
  intro i
  by_cases hi : i < 12
  · rw [get_metC D (k + 1) i hi]
    by_cases hai : a = i
    · subst hai
      rw [Array.getElem?_setIfInBounds_self_of_lt (by rw [size_metC]; exact hi)]
      rw [decide_eq_true ⟨k, by omega, ha⟩]
    · rw [Array.getElem?_setIfInBounds_ne hai, get_metC D k i hi]
      congr 2
      apply decide_eq_decide.2
      constructor
      · rintro ⟨j, hj, e⟩; exact ⟨j, by omega, e⟩
      · rintro ⟨j, hj, e⟩
        rcases Nat.lt_or_eq_of_le (Nat.le_of_lt_succ hj) with h | rfl
        · exact ⟨j, h, e⟩
        · rw [ha] at e; omega
  · rw [Array.getElem?_eq_none (by rw [Array.size_setIfInBounds, size_metC]; omega), Array.getElem?_eq_none (by rw [size_metC]; omega)]
set_option maxRecDepth 20000 in
set_option maxHeartbeats 1600000 in
theorem wgood_walk (D0 : DiskOps) (O : WalOps D0) (A : Option Addr) (c : Nat) (l : List (Int × List (BitVec 8))) (w : World) (hv : PutsAt w (.slice A l.length c) l) :
    Calls Try.prog 7 #[.slice A l.length c] w fun e w' => e = .returned (.bool true) ∧ Below w.heap.size w w' := by
  have HW := Lib.hid (fun W => wwakes_any D0 O W)
  have HG := Lib.hid (fun v W h hl => O.good l v W h hl)
  have HG2 := Lib.hid (fun v W h hl => O.good l.reverse v W h hl)
  rw [List.map_reverse, good_reverse] at HG2
  obtain ⟨n, hn⟩ : ∃ n, l.length = n := ⟨_, rfl⟩
  have HN := Lib.hid hn
  obtain ⟨L, hL⟩ : ∃ L, l.map (·.1) = L := ⟨_, rfl⟩
  have hLn : L.length = n := by rw [← hL, List.length_map, hn]
  have HX : Hid (∀ k, k < n → ∃ q b o, A = some ⟨b, o, none⟩ ∧ b < w.heap.size ∧ l[k]? = some (L.getD k 0, q) ∧ w.rangeAt b (o + k * 33) (pcell (L.getD k 0, q)) ∧ q.length = 32 ∧ -9223372036854775808 ≤ L.getD k 0 ∧ L.getD k 0 < 9223372036854775808) := Lib.hid fun k hk => by
    obtain ⟨x, hx⟩ : ∃ x, l[k]? = some x := ⟨_, List.getElem?_eq_getElem (by rw [hn]; exact hk)⟩
    obtain ⟨A', c', e1, _, hb, h3⟩ := hv
    obtain ⟨b, o, h5, h6, h7⟩ := h3 (by intro e; rw [e] at hx; simp at hx)
    injection e1 with e1 _ _
    have hd : L.getD k 0 = x.1 := by rw [← hL, List.getD_eq_getElem?_getD, List.getElem?_map, hx]; rfl
    have hr := hb x (List.mem_of_getElem? hx)
    rw [hd]
    exact ⟨x.2, b, o, e1.trans h5, h6, hx, h7 k x hx, hr.1, hr.2⟩
  have HGD : Hid (goodB L = (decide (∀ k < n, okAt L k) && (decide (1 ≤ n) && decide (n ≤ 5)))) := Lib.hid (by unfold goodB; rw [hLn])
  obtain ⟨G, hG⟩ : ∃ G, goodB L = G := ⟨_, rfl⟩
  rw [hL, hG] at HG HG2
  rw [hG] at HGD
  obtain ⟨D, hD⟩ : ∃ D : Nat → Int, ∀ k, L.getD k 0 = D k := ⟨_, fun _ => rfl⟩
  have HK : Hid (∀ k, okAt L k ↔ (0 ≤ D k ∧ D k < 12 ∧ ∀ i < k, D i ≠ D k)) := Lib.hid fun k => by unfold okAt; simp only [hD]
  simp only [hD] at HX
  have HNO : Hid (∀ k, k < n → ¬ okAt L k → G = false) := Lib.hid fun k hk h => by
    rw [HGD.out, decide_eq_false (fun h' => h (h' k hk))]; rfl
  have HV := Lib.hid hv
  rw [hn] at HV
  rw [hn]
  clear hD hn hL hLn hG hv
  go_enter Try.func7, Try.ntmps7
  by_cases h20 : 20 < n
  · have hq : decide ((20 : Int) < (n : Int)) = true := decide_eq_true (by omega)
    go_wp2_with fail
    refine (HW.out _).mono ?_
    rintro e W3 ⟨rfl, hb3⟩
    go_wp2_with fail
    go_ret
    exact ⟨rfl, hb3⟩
  have hq : decide ((20 : Int) < (n : Int)) = false := decide_eq_false (by omega)
  go_upto_region 3 with fail
  clear hq
  go_cut [3] (fun r wr => r = .bool (decide (1 ≤ n) && decide (n ≤ 5)) ∧ wr = w)
  case first =>
    by_cases h1 : 1 ≤ n
    · have hd1 : decide ((1 : Int) ≤ (n : Int)) = true := decide_eq_true (by omega)
      by_cases h5 : n ≤ 5
      · have hd2 : decide ((n : Int) ≤ 5) = true := decide_eq_true (by omega)
        go_wp2_with fail
        go_meet
        exact ⟨by rw [decide_eq_true h1, decide_eq_true h5]; rfl, rfl⟩
      · have hd2 : decide ((n : Int) ≤ 5) = false := decide_eq_false (by omega)
        go_wp2_with fail
        go_meet
        exact ⟨by rw [decide_eq_true h1, decide_eq_false h5]; rfl, rfl⟩
    · have hd1 : decide ((1 : Int) ≤ (n : Int)) = false := decide_eq_false (by omega)
      go_wp2_with fail
      go_meet
      exact ⟨by rw [decide_eq_false h1]; rfl, rfl⟩
  case rest =>
    obtain ⟨rfl, hwc⟩ := hcut
    have hwc := hwc.symm
    subst hwc
    have hz := zeros_met D
    go_upto_region 5 with fail
    have R4 := Lib.hid (Row.fresh w 78 (metC D 0))
    have HB4 := Lib.hid (Same.alloc w (.cells (metC D 0) 78))
    have HG4 : ∃ g4, Hid (w.heap.size = g4) := ⟨_, Lib.hid rfl⟩
    obtain ⟨g4, HG4⟩ := HG4
    rw [HG4.out] at R4
    rw [HG4.out]
    clear hz
    generalize w.alloc (.cells (metC D 0) 78) = W4 at *
    go_upto_block 0 with fail
    go_cut [3] (fun r wr => r = .bool G ∧ Below w.heap.size w wr)
    case first =>
      go_wp2_with fail
      go_loopw [3, 5] (fun r i wr => ∃ k : Nat, k ≤ n ∧ i = .int .i64 k ∧ r = .bool (decide (1 ≤ n) && decide (n ≤ 5)) ∧ (∀ j < k, okAt L j) ∧ Row wr g4 78 (metC D k) ∧ Below w.heap.size w wr) (fun _ i _ => n - (intOf i).toNat)
      case atStart => exact ⟨0, by omega, rfl, rfl, fun j hj => by omega, R4.out, HB4.out⟩
      case round =>
        obtain ⟨k, hk, rfl, rfl, hok, hR, hB⟩ := hrel
        have HOK := Lib.hid hok
        have HR := Lib.hid hR
        have HB := Lib.hid hB
        clear hok hR hB
        by_cases hlt : k < n
        · obtain ⟨q, b, o, rfl, hbw, _, hr, _, hlo, hhi⟩ := HX.out k hlt
          obtain ⟨O, hO⟩ : ∃ O, o + k * 33 = O := ⟨_, rfl⟩
          rw [hO] at hr
          have ci : wr.cell? ⟨b, O, none⟩ = some (.int .i64 (D k)) := (HB.out.cell (p := ⟨b, O, none⟩) hbw).trans (by have := hr 0 _ rfl; simpa using this)
          have hk0 : (0 : Int) ≤ (k : Int) := by omega
          have hk1 : (k : Int) < (n : Int) := by omega
          clear hr hbw
          by_cases h0 : 0 ≤ D k
          · by_cases h12 : D k < 12
            · obtain ⟨a, ha⟩ := Int.eq_ofNat_of_zero_le h0
              have ha12 : a < 12 := by omega
              have hd3 : decide ((a : Int) < 0) = false := decide_eq_false (by omega)
              have hd4 : decide ((12 : Int) ≤ (a : Int)) = false := decide_eq_false (by omega)
              have hi1 : (a : Int) < 12 := by omega
              have HA := Lib.hid ha
              have cm := HR.out.get (get_metC D k a ha12)
              have hff := HR.out.free a
              rw [ha] at ci
              clear ha h0 h12 hlo hhi
              by_cases hm : ∃ j < k, D j = (a : Int)
              · have hdm : decide (∃ j < k, D j = (a : Int)) = true := decide_eq_true hm
                have hG := HNO.out k hlt (fun h => by obtain ⟨j, hj, e⟩ := hm; exact ((HK.out k).1 h).2.2 j hj (e.trans HA.out.symm))
                have HGF := Lib.hid hG
                rw [hdm] at cm
                clear hG hm hdm hff
                go_wp2_with fail
                go_meet
                exact ⟨by rw [HGF.out], HB.out⟩
              · have hdm : decide (∃ j < k, D j = (a : Int)) = false := decide_eq_false hm
                have HOKK : Hid (okAt L k) := Lib.hid ((HK.out k).2 ⟨by rw [HA.out]; omega, by rw [HA.out]; omega, fun i hi e => hm ⟨i, hi, e.trans HA.out⟩⟩)
                rw [hdm] at cm
                have HR5 : Hid (Row (wr.setCell ⟨g4, a, none⟩ (.bool true)) g4 78 (metC D (k + 1))) := Lib.hid (by have := HR.out.put a (.bool true); rwa [set_metC D k a HA.out] at this)
                have HB5 : Hid (Below w.heap.size w (wr.setCell ⟨g4, a, none⟩ (.bool true))) := Lib.hid (HB.out.trans ((Chg.one wr g4 a (.bool true)).below (fun i hi => by rw [hi, ← HG4.out]; exact Nat.le_refl _) HB.out.size))
                clear hm hdm
                go_wp2_with fail
                refine ⟨⟨k + 1, by omega, by go_num, rfl, fun j hj => ?_, HR5.out, HB5.out⟩, by simp [intOf] <;> omega⟩
                rcases Nat.lt_or_eq_of_le (Nat.le_of_lt_succ hj) with h | rfl
                · exact HOK.out j h
                · exact HOKK.out
            · have hd3 : decide (D k < 0) = false := decide_eq_false (by omega)
              have hd4 : decide (12 ≤ D k) = true := decide_eq_true (by omega)
              have hG := HNO.out k hlt (fun h => h12 ((HK.out k).1 h).2.1)
              have HGF := Lib.hid hG
              clear hG
              go_wp2_with fail
              go_meet
              exact ⟨by rw [HGF.out], HB.out⟩
          · have hd3 : decide (D k < 0) = true := decide_eq_true (by omega)
            have hG := HNO.out k hlt (fun h => h0 ((HK.out k).1 h).1)
            have HGF := Lib.hid hG
            clear hG
            go_wp2_with fail
            go_meet
            exact ⟨by rw [HGF.out], HB.out⟩
        · obtain rfl : k = n := by omega
          have hq : decide ((k : Int) < (k : Int)) = false := decide_eq_false (by omega)
          have HGT : Hid (G = (decide (1 ≤ k) && decide (k ≤ 5))) := Lib.hid (by rw [HGD.out, decide_eq_true HOK.out, Bool.true_and])
          go_wp2_with fail
          go_meet
          exact ⟨by rw [HGT.out], HB.out⟩
    case rest =>
      obtain ⟨rfl, hB⟩ := hcut
      have HB6 := Lib.hid hB
      clear hB R4 HB4
      obtain ⟨BL, hBL⟩ : ∃ BL : Nat → List (Int × List (BitVec 8)), BL = fun k => l.reverse.take k := ⟨_, rfl⟩
      have HBL0 : Hid (BL 0 = []) := Lib.hid (by rw [hBL]; rfl)
      have HBLN : Hid (BL n = l.reverse) := Lib.hid (by rw [hBL]; exact List.take_of_length_le (by rw [List.length_reverse, HN.out]; exact Nat.le_refl _))
      have HBLS : Hid (∀ k x, k < n → l[n - 1 - k]? = some x → BL (k + 1) = BL k ++ [x]) := Lib.hid (fun k x hk hx => by
        have hkl : k < l.reverse.length := by rw [List.length_reverse, HN.out]; exact hk
        have e : l.reverse[k] = x := by
          have h2 : l.reverse[k]? = some x := by rw [List.getElem?_reverse (by rw [HN.out]; exact hk), HN.out]; exact hx
          rw [List.getElem?_eq_getElem hkl] at h2
          exact Option.some.inj h2
        rw [hBL]
        show l.reverse.take (k + 1) = l.reverse.take k ++ [x]
        rw [List.take_succ_eq_append_getElem hkl, e])
      clear hBL
      go_wp2_with fail
      go_loopw [7, 8] (fun bv i wr => ∃ k : Nat, k ≤ n ∧ i = .int .i64 k ∧ wr.ownsRow w.heap.size 70 33 bv k ((BL k).map pcell).flatten ∧ Below w.heap.size w wr) (fun _ i _ => n - (intOf i).toNat)
      case atStart => exact ⟨0, by omega, rfl, by rw [HBL0.out]; exact World.ownsRow_nil _ _ _ _, HB6.out⟩
      case round =>
        obtain ⟨k, hk, rfl, hO, hB⟩ := hrel
        have HO := Lib.hid hO
        have HB := Lib.hid hB
        clear hO hB
        by_cases hlt : k < n
        · obtain ⟨q, b, o, rfl, hbw, hx, hr, hql, hlo, hhi⟩ := HX.out (n - 1 - k) (by omega)
          obtain ⟨O, hO⟩ : ∃ O, o + (n - 1 - k) * 33 = O := ⟨_, rfl⟩
          rw [hO] at hr
          have hbls := HBLS.out k _ hlt hx
          obtain ⟨d, hd⟩ : ∃ d, D (n - 1 - k) = d := ⟨_, rfl⟩
          rw [hd] at hr hbls
          have HBS := Lib.hid hbls
          have HQL := Lib.hid hql
          have HRG := Lib.hid (range_below hr HB.out hbw)
          have hk0 : (0 : Int) ≤ (k : Int) := by omega
          have hk1 : (k : Int) < (n : Int) := by omega
          have e1 : IntKind.i64.wrap ((n : Int) - 1) = (n : Int) - 1 := i64_id _ (by omega) (by omega)
          have e2 : IntKind.i64.wrap ((n : Int) - 1 - (k : Int)) = (n : Int) - 1 - (k : Int) := i64_id _ (by omega) (by omega)
          have e3 : (0 : Int) ≤ (n : Int) - 1 - (k : Int) := by omega
          have e4 : (n : Int) - 1 - (k : Int) < (n : Int) := by omega
          have e5 : ((n : Int) - 1 - (k : Int)).toNat = n - 1 - k := by omega
          clear hbls hql hr hbw hd hx hlo hhi
          have HO4 := Lib.hid (HO.out.alloc (.cells (pcell (d, q)).toArray 70))
          have HB4 := Lib.hid (HB.out.trans ((Same.alloc wr (.cells (pcell (d, q)).toArray 70)).mono HB.out.size))
          have R8 := Lib.hid (Row.fresh wr 70 (pcell (d, q)).toArray)
          go_wp2_with (first | (refine wpList_load_mid rfl 70 _ rfl b O rfl (pcell (d, q)) _ HRG.out Try.underlying70 rfl (by rw [len_pcell HQL.out]; exact size_put33) ?_) | ((with_reducible refine wpList_plain ?_ ?_); exact rfl; intro KK hKK; refine wp_buildOne 34 70 (.tmp 59) rfl (pcell (d, q)).toArray _ 33 rfl Try.underlying34 info_put2 (by rw [List.size_toArray, len_pcell HQL.out]) (by decide) (by decide) (hKK _ _ ?_); clear hKK KK) | (at_builtin; (with_reducible refine wpList_plain ?_ ?_); exact rfl; intro KK hKK; refine wp_append_where (.tmp 51) (.tmp 60) 34 rfl w.heap.size 70 33 40 _ Try.underlying34 info_put rfl (by decide) _ k _ rfl HO4.out ⟨wr.heap.size, 0, none⟩ 1 1 (pcell (d, q)) rfl (by rw [len_pcell HQL.out]) (fun j u hu => by rw [Addr.add_mid, Nat.zero_add]; exact R8.out.get (by simpa using hu)) one_pcell0 (by unfold maxLen; omega) (by omega) HB4.out.size (fun v3 w3 own3 hg3 hw3 => hKK _ _ ?_); clear hKK KK; have HO5 : Hid (w3.ownsRow w.heap.size 70 33 v3 (k + 1) ((BL (k + 1)).map pcell).flatten) := Lib.hid (by rw [HBS.out, List.map_append, List.flatten_append]; simpa using own3); have HB5 := Lib.hid (HB4.out.trans (below_of_grown hg3 (fun g hg => (HO4.out.lt g hg).1) HB4.out.size)); clear own3 hg3 hw3))
          exact ⟨⟨k + 1, by omega, by go_num, HO5.out, HB5.out⟩, by simp [intOf] <;> omega⟩
        · obtain rfl : k = n := by omega
          have hq : decide ((k : Int) < (k : Int)) = false := decide_eq_false (by omega)
          have hputs := puts_own (l := l.reverse) (by rw [List.length_reverse, HN.out]; have := HO.out; rwa [HBLN.out] at this) (fun x hx => by
            obtain ⟨A', c', _, _, hb, _⟩ := HV.out
            exact hb x (List.mem_reverse.1 hx))
          have HP := Lib.hid hputs
          have HL6 : Hid (l.length ≤ maxLen ∧ l.reverse.length ≤ maxLen) := Lib.hid (by rw [List.length_reverse]; have := HN.out; unfold maxLen; omega)
          have C1 := HG.out _ wr (HV.out.below HB.out (Nat.le_refl _)) HL6.out.1
          clear hputs
          go_wp2_with fail
          refine C1.mono ?_
          rintro e w5 ⟨rfl, hb5⟩
          have HB5 := Lib.hid (HB.out.trans (hb5.mono HB.out.size))
          have C2 := HG2.out _ w5 (HP.out.below hb5 (Nat.le_refl _)) HL6.out.2
          clear C1 hb5
          cases G
          all_goals
            go_wp2_with fail
            refine C2.mono ?_
            rintro e w6 ⟨rfl, hb6⟩
            have HB6 := Lib.hid (HB5.out.trans (hb6.mono HB5.out.size))
            clear C2 hb6
            go_wp2_with fail
            refine (HW.out _).mono ?_
            rintro e w7 ⟨rfl, hb7⟩
            have hbb := HB6.out.trans (hb7.mono HB6.out.size)
            clear hb7
            go_wp2_with fail
            go_ret
            exact ⟨rfl, hbb⟩
end Go.Proofs.Ytdobempppobopaa

/- WalGood: for every list of puts the call returns true and changes nothing that it was handed. Conditions: those of the row. -/
set_option maxRecDepth 4000
namespace Go.Proofs.Ytdobempppobopaa.walGood
open Go Go.ChangeShapes Go.WideShapes Go.ChangeAt Go.RowKit

theorem contract (H : Type) (enc : TypeId × Value → H) (W : World) (base : Nat) (args : Array Value) (ds gs : List (DataW H)) (before : List MemPlace)
    (hval : ∀ (j : Nat) t v, Try.f7.params[j]? = some t → args[j]? = some v → Value.okWide Try.prog W .any base t v)
    (hW : DataW.Whole enc Try.prog Try.f7.params.toList Rows.walGoodSpec.vars false W args.toList ds gs before) :
    Calls Try.prog 7 args W fun e W' => ∃ v, e = .returned v ∧ Rows.walGoodSpec.post enc Try.prog Try.f7 false true false false W args v W' := by
  have hW' := hW
  obtain ⟨p, q, hA0, hV, rfl, _, _⟩ := hW
  have hA : DataW.TrodAll enc Try.prog W 0 (fun _ => true) true Try.f7.params.toList args.toList ds p := hA0
  rw [Try.params7] at hA hval
  obtain ⟨v0, vs0, d0, ds0, p0, q0, hargs, rfl, rfl, h0, r0⟩ := trodAll_cons hA
  obtain ⟨rfl, rfl, rfl⟩ := trodAll_nil r0
  obtain rfl : args = #[v0] := by cases args; simp_all
  obtain ⟨rfl, rfl⟩ := trodVars_none hV
  have hlt0 : ∀ x ∈ p0, x.block < W.heap.size := fun x hx => hW'.lt x (by simp [hx])
  obtain ⟨A0, c0, l0, rfl, hS0⟩ := open_puts (hval 0 34 v0 rfl rfl) h0 hlt0
  refine (wgood_walk diskOps walOps A0 c0 l0 W hS0).mono fun e W' ⟨he, hb⟩ => ?_
  subst he
  exact ⟨_, rfl, [d0], [], _, [], _, [], hW', trodAll_cons_mk (shut_bool Try.underlying4 _) trodAll_mk0, trodAll_cons_mk (Below.trod laidOutT (by kernel_rfl) (of_decide_eq_true (by kernel_rfl)) h0 hb hlt0) trodAll_mk0, rfl, hb.frame _, fun h => by cases h⟩

set_option maxRecDepth 100000 in
theorem lifted (os : Os) (started : os.Started) (H : Type) (enc : TypeId × Value → H) :
    ReturnsInHanded {} Try.checked os 7 .any (Rows.walGoodSpec.pre6 enc Try.prog Try.f7 Rows.walGoodRow.domain false) (Rows.walGoodSpec.post enc Try.prog Try.f7 false true false false) := by
  refine returnsInHanded_of_change (C := Try.checked) ownK started (by kernel_rfl) Try.func7
    (ChangeSpec.witness6 (enc := enc) (C := Try.checked) false ⟨#[], #[.slice none 0 0], []⟩ 8 (by kernel_rfl) (by kernel_rfl) (by kernel_rfl) (by kernel_rfl)) ?_
  intro W base args ds gs before hval hW _ _
  exact contract H enc W base args ds gs before hval hW

theorem said : Rows.WalGoodSaid :=
  OpenClaim.holds_of_wide 7 Try.f7 rfl rfl rfl rfl rfl rfl rfl ⟨rfl, rfl, rfl, rfl, rfl⟩ rfl rfl rfl rfl rfl (by kernel_rfl) Try.func7 (by kernel_rfl)
    (of_decide_eq_true (by kernel_rfl)) (by unfold Func.isWrapper; first | (rw [if_pos (by decide +kernel)]; kernel_rfl) | (rw [if_neg (by decide +kernel)]; exact ⟨rfl, rfl⟩))
    (fun os started H enc _ => lifted os started H enc)
end Go.Proofs.Ytdobempppobopaa.walGood
