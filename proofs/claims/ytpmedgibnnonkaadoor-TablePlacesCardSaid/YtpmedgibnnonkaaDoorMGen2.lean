/- Merged: NamesRef TabRef TabRefE NamesCut TabRefD0 TabRefD3 TabRefD KeepInts KeepVols TabWakes AppEI PoolOwn PoolFair TbTells TabPl. -/
import Derived.Deep.DeepCutAuto
import Derived.Deep.CutBlock
import Derived.Deep.Cut
import Derived.ArgAppend
import Derived.Test.YtpmedgibnnonkaaDoorMGen0
import Derived.Test.YtpmedgibnnonkaaDoorMGen1
/- The document's names: Good, Pad, Cut. -/
set_option maxRecDepth 4000
namespace Go.Proofs.YtpmedgibnnonkaaDoor
open Go Go.RowKit
attribute [local go_sem] strB_size
set_option maxHeartbeats 1600000 in
theorem refgoodn_any (l : List (List (BitVec 8))) (v : Value) (w : World) (hv : Strs w v l) (hl : l.length ≤ maxLen) :
    Calls Tryd.prog 25 #[v] w fun e w' => e = .returned (.bool (goodNs l)) ∧ w = w' := by
  obtain ⟨A, c, rfl⟩ : ∃ A c, v = .slice A l.length c := by obtain ⟨A, c, h, _⟩ := hv; exact ⟨A, c, h⟩
  obtain ⟨n, hn⟩ : ∃ n, l.length = n := ⟨_, rfl⟩
  have HN := Lib.hid hn
  have HM : Hid (∀ q ∈ l, q.length ≤ maxLen) := Lib.hid (by obtain ⟨_, _, _, _, _, hm, _⟩ := hv; exact hm)
  rw [hn] at hv hl ⊢
  have HV := Lib.hid hv
  unfold maxLen at hl
  obtain ⟨G, hG⟩ : ∃ G, goodNs l = G := ⟨_, rfl⟩
  have HY : Hid ((∀ j < n, goodN (l.getD j []) = true) → G = true) := Lib.hid fun h => by rw [← hG]; exact good_all (by rw [hn]; exact h)
  have HNO : Hid (∀ j < n, goodN (l.getD j []) = false → G = false) := Lib.hid fun j hj h => by rw [← hG]; exact good_no (by rw [hn]; exact hj) h
  rw [hG]
  clear hn hG hv
  go_enter Tryd.func25, Tryd.ntmps25
  go_wp2_with fail
  go_loopw [3] (fun i wr => ∃ k : Nat, k ≤ n ∧ i = .int .i64 k ∧ (∀ j < k, goodN (l.getD j []) = true) ∧ wr = w) (fun i _ => n - (intOf i).toNat)
  case atStart => exact ⟨0, by omega, rfl, fun j hj => by omega, rfl⟩
  case round =>
    obtain ⟨k, hk, rfl, hok, rfl⟩ := hrel
    have HOK := Lib.hid hok
    clear hok
    by_cases hlt : k < n
    · obtain ⟨q, hx⟩ : ∃ x, l[k]? = some x := ⟨_, List.getElem?_eq_getElem (by rw [HN.out]; exact hlt)⟩
      have HQD : Hid (l.getD k [] = q) := Lib.hid (by rw [List.getD_eq_getElem?_getD, hx]; rfl)
      have HQM : Hid (q.length ≤ maxLen) := Lib.hid (HM.out q (List.mem_of_getElem? hx))
      obtain ⟨b, o, rfl, hbw, hcell⟩ := strs_at HV.out hx
      obtain ⟨m, hm⟩ : ∃ m, q.length = m := ⟨_, rfl⟩
      have hk0 : (0 : Int) ≤ (k : Int) := by omega
      have hk1 : (k : Int) < (n : Int) := by omega
      have hkd : decide ((k : Int) < (n : Int)) = true := decide_eq_true hk1
      have HQ4 : Hid (goodN q = (decide (1 ≤ m) && decide (m ≤ 4) && q.all letter)) := Lib.hid (by rw [← hm]; rfl)
      clear hx hbw
      by_cases h1 : m < 1
      · have hd1 : decide ((m : Int) < 1) = true := decide_eq_true (by omega)
        have hG : G = false := HNO.out k hlt (by rw [HQD.out, HQ4.out, decide_eq_false (by omega)]; rfl)
        go_wp2_with fail
        go_ret
        first | exact ⟨rfl, rfl⟩ | (rw [hG]; exact ⟨rfl, rfl⟩)
      have hd1 : decide ((m : Int) < 1) = false := decide_eq_false (by omega)
      by_cases h4 : 4 < m
      · have hd2 : decide ((4 : Int) < (m : Int)) = true := decide_eq_true (by omega)
        have hG : G = false := HNO.out k hlt (by rw [HQD.out, HQ4.out, decide_eq_false (show ¬ m ≤ 4 by omega), Bool.and_false]; rfl)
        go_wp2_with fail
        go_ret
        first | exact ⟨rfl, rfl⟩ | (rw [hG]; exact ⟨rfl, rfl⟩)
      have hd2 : decide ((4 : Int) < (m : Int)) = false := decide_eq_false (by omega)
      have HQ5 : Hid (goodN q = q.all letter) := Lib.hid (by rw [HQ4.out, decide_eq_true (by omega), decide_eq_true (by omega)]; rfl)
      have HML : Hid (q.length = m) := Lib.hid hm
      have HG0 : Hid (goodN q = false → G = false) := Lib.hid fun h => HNO.out k hlt (by rw [HQD.out, h])
      have HIX : Hid (∀ w (j : Nat), j < m → (Instr.index 9 (.string (strB q)) (.int .i64 (j : Int))).run Tryd.prog w = .ok (.int .u8 (bd (q.getD j 0#8))) w) := Lib.hid fun w j hj => run_ix w 9 q .i64 j Tryd.underlying9 (by rw [hm]; exact hj)
      have hw : IntKind.i64.wrap ((k : Int) + 1) = ((k + 1 : Nat) : Int) := by rw [i64_id _ (by omega) (by omega)]; omega
      go_wp2_with fail
      clear hd1 hd2
      go_loopw [4] (fun i ws => ∃ j : Nat, j ≤ m ∧ i = .int .i64 j ∧ (∀ s < j, letter (q.getD s 0#8) = true) ∧ ws = wr) (fun i _ => m - (intOf i).toNat)
      case atStart => exact ⟨0, by omega, rfl, fun j hj => by omega, rfl⟩
      case round =>
        obtain ⟨j, hj, rfl, hok, rfl⟩ := hrel
        have HOJ := Lib.hid hok
        clear hok
        by_cases hjm : j < m
        · have hix := fun w => HIX.out w j hjm
          have hj0 : decide ((j : Int) < (m : Int)) = true := decide_eq_true (by omega)
          have hj1 : (j : Int) < (m : Int) := by omega
          have hj2 : (0 : Int) ≤ (j : Int) := by omega
          obtain ⟨x, hx⟩ : ∃ x, q.getD j 0#8 = x := ⟨_, rfl⟩
          have HX := Lib.hid hx
          rw [hx] at hix
          clear hx
          by_cases h97 : bd x < 97
          · have hd1 : decide (bd x < 97) = true := decide_eq_true h97
            have hG : G = false := HG0.out (by rw [HQ5.out]; exact all_no (by rw [HML.out]; exact hjm) (by rw [HX.out]; unfold letter; rw [decide_eq_false (by omega)]; rfl))
            go_wp2_with fail
            go_ret
            first | exact ⟨rfl, rfl⟩ | (rw [hG]; exact ⟨rfl, rfl⟩)
          have hd1 : decide (bd x < 97) = false := decide_eq_false h97
          by_cases h122 : 122 < bd x
          · have hd2 : decide (122 < bd x) = true := decide_eq_true h122
            have hG : G = false := HG0.out (by rw [HQ5.out]; exact all_no (by rw [HML.out]; exact hjm) (by rw [HX.out]; unfold letter; rw [decide_eq_false (show ¬ bd x ≤ 122 by omega), Bool.and_false]))
            go_wp2_with fail
            go_ret
            first | exact ⟨rfl, rfl⟩ | (rw [hG]; exact ⟨rfl, rfl⟩)
          have hd2 : decide (122 < bd x) = false := decide_eq_false h122
          have hwj : IntKind.i64.wrap ((j : Int) + 1) = ((j + 1 : Nat) : Int) := by rw [i64_id _ (by omega) (by omega)]; omega
          go_wp2_with fail
          refine ⟨⟨j + 1, by omega, by go_num, fun s hs => ?_, trivial⟩, by simp [intOf]; omega⟩
          rcases Nat.lt_succ_iff_lt_or_eq.1 hs with h | h
          · exact HOJ.out s h
          · subst h; rw [HX.out]; unfold letter; rw [decide_eq_true (by omega), decide_eq_true (by omega)]; rfl
        · have hj0 : decide ((j : Int) < (m : Int)) = false := decide_eq_false (by omega)
          have HAL : Hid (q.all letter = true) := Lib.hid (all_of fun s hs => HOJ.out s (by rw [HML.out] at hs; omega))
          go_wp2_with fail
          refine ⟨⟨k + 1, by omega, by go_num, fun j hj => ?_, trivial⟩, by simp [intOf]; omega⟩
          rcases Nat.lt_succ_iff_lt_or_eq.1 hj with h | h
          · exact HOK.out j h
          · subst h; rw [HQD.out, HQ5.out]; exact HAL.out
    · have hkd : decide ((k : Int) < (n : Int)) = false := decide_eq_false (by omega)
      have hG : G = true := HY.out fun j hj => HOK.out j (by omega)
      go_wp2_with fail
      go_ret
      first | exact ⟨rfl, rfl⟩ | (rw [hG]; exact ⟨rfl, rfl⟩)
end Go.Proofs.YtpmedgibnnonkaaDoor

/- The document's tables: Find, Good. -/
set_option maxRecDepth 4000
namespace Go.Proofs.YtpmedgibnnonkaaDoor
open Go Go.RowKit
theorem ints_atB {w : World} {A : Option Addr} {b o n c : Nat} {L : List Int} (h : IntsAt w (.slice A n c) L) (hA : A = some ⟨b, o, none⟩) (k : Nat) (hk : k < n) : w.cell? ⟨b, o + k, none⟩ = some (.int .i64 (L.getD k 0)) := by
  subst hA; exact ints_at h k hk
set_option maxHeartbeats 800000 in
theorem rfind_pos (b o n c : Nat) (q : List (BitVec 8)) (l : List Tv) (w : World) (hv : VolsAt w (.slice (some ⟨b, o, none⟩) n c) (volL l)) (hn : n ≤ 1000000) :
    Calls Tryd.prog 18 #[.string (strB q), .slice (some ⟨b, o, none⟩) n c] w fun e w' => e = .returned (.int .i64 (findI q l)) ∧ Below w.heap.size w w' := by
  have HS := St.nil w noF
  have HV : ∀ W, Below w.heap.size w W → VolsAt W (.slice (some ⟨b, o, none⟩) n c) (volL l) := fun W hb => hv.below hb (Nat.le_refl _)
  have hln : l.length = n := by rw [← len_volL]; exact vols_len hv
  refine enter_en Tryd.func18 rfl Tryd.ntmps18 (Nat.le_of_ble_eq_true rfl) fun a0 (HA0 : En 20 [(0, .string (strB q)), (1, .slice (some ⟨b, o, none⟩) n c)] a0) => ?_
  refine sq_ <| rl_ <| wl_ <| p_ HA0 rfl rfl fun a1 H1 => ln_ <| nx <| sq_ <| sq_ <| rl_ <| wl_ <| p_ H1 rfl rfl fun a2 H2 => ln_ <| nx <| wp_block <| ?_
  clear HA0 a0 H1 a1
  refine wp_loopG (ι := Nat) (fun k a9 w9 => (k ≤ n) ∧ (∀ j, j < k → ∀ x, l[j]? = some x → x.1 ≠ q) ∧ En 20 [(5, .int .i64 k), (0, .string (strB q)), (1, .slice (some ⟨b, o, none⟩) n c)] a9 ∧ St w noF [] w9) (fun k => n - k) (0) ⟨Nat.zero_le _, (fun j hj => absurd hj (Nat.not_lt_zero _)), H2.sel [1, 0, 5] rfl, ss HS []⟩ ?_
  clear H2 a2 HS
  rintro k aL3 wL3 ⟨hk, hno, HL3, HSL3⟩
  refine sq_ <| sq_ <| rl_ <| q_ HL3 2 rfl fun a4 H4 => wl_ <| i_ H4 rfl (v := .int .i64 n) (dd_len rfl (H4.ev 7 rfl) Tryd.underlying22) fun a5 H5 => ?_
  clear HL3 aL3 H4 a4
  by_cases hc7 : (k : Int) < n
  ·
   refine wl_ <| i_ H5 rfl (dd_cmp rfl (H5.ev 6 rfl) (H5.ev 8 rfl) (lt_t hc7)) fun a8 H8 => ln_ <| nx <| ct_ H8 rfl <| wp_skip <| nx <| sq_ <| wp_block <| sq_ <| rl_ <| q_ H8 2 rfl fun a9 H9 => wl_ <| i_ H9 rfl (xSo 2 (o + k * 2) rfl (H9.ev 12 rfl) (H9.ev 13 rfl)) fun a10 H10 => wl_ <| i_ H10 rfl (xf 0 (o + k * 2) rfl (H10.ev 14 rfl)) fun a11 H11 => ?_
   clear H5 a5 H8 a8 H9 a9 H10 a10
   obtain ⟨p13, L13, B13, m13, c13, hg13, hr13, hm13, hp13⟩ := vols_getC (HV _ (Below.refl _ _)) (k := k) (by omega)
   refine wl_ <| i_ H11 rfl (dd_at rfl (H11.ev 15 rfl) ((hr13 _ HSL3.below).1 0 _ rfl) Tryd.underlying9 rfl) fun a12 H12 => wl_ <| p_ H12 rfl rfl fun a14 H14 => ?_
   clear H11 a11 H12 a12
   by_cases hc16 : p13 = q
   ·
    refine wl_ <| i_ H14 rfl (v := .bool true) (dd_eqs rfl (H14.ev 16 rfl) (H14.ev 17 rfl) (sbeq_t hc16)) fun a17 H17 => ln_ <| nx <| ct_ H17 rfl <| sq_ <| rl_ <| q_ H17 2 rfl fun a18 H18 => ln_ <| nx <| wp_ret <| br_ <| tr <| tr <| br_ <| tr <| ret_run H18.env0 (res_t Tryd.results18 (H18.get 4 rfl)) <| ?_
    clear H14 a14 H17 a17
    exact ⟨by rw [findI_some hg13 hc16 hno], HSL3.below⟩
   ·
    refine wl_ <| i_ H14 rfl (v := .bool false) (dd_eqs rfl (H14.ev 16 rfl) (H14.ev 17 rfl) (sbeq_f hc16)) fun a19 H19 => ln_ <| nx <| cf_ H19 rfl <| wp_skip <| bn <| nx <| rl_ <| wl_ <| p_ H19 rfl rfl fun a20 H20 => wl_ <| i_ H20 rfl (v := .int .i64 (k + 1)) (dd_ari rfl (H20.ev 10 rfl) rfl rfl (i64_of (by first | omega | (have := bd_lo; omega)) (by omega))) fun a21 H21 => wl_ <| p_ H21 rfl rfl fun a22 H22 => ln_ <| ?_
    clear H14 a14 H19 a19 H20 a20 H21 a21
    refine nx ⟨k + 1, ⟨(by omega), (step_no hno hg13 hc16), H22.sel [1, 0, 5] rfl, ss HSL3 []⟩, (by omega)⟩
  ·
   refine wl_ <| i_ H5 rfl (dd_cmp rfl (H5.ev 6 rfl) (H5.ev 8 rfl) (lt_f hc7)) fun a23 H23 => ln_ <| nx <| cf_ H23 rfl <| wp_exit <| tx <| tx <| bx <| nx <| sq_ <| rl_ <| wl_ <| p_ H23 rfl rfl fun a24 H24 => ln_ <| nx <| wp_ret <| ret_run H24.env0 (res_t Tryd.results18 (H24.get 4 rfl)) <| ?_
   clear H5 a5 H23 a23
   exact ⟨by rw [findI_none (fun j hj => hno j (by omega))], HSL3.below⟩
theorem rfind_any (A : Option Addr) (n c : Nat) (q : List (BitVec 8)) (l : List Tv) (w : World) (hv : VolsAt w (.slice A n c) (volL l)) (hn : n ≤ 1000000) :
    Calls Tryd.prog 18 #[.string (strB q), .slice A n c] w fun e w' => e = .returned (.int .i64 (findI q l)) ∧ Below w.heap.size w w' := by
  by_cases h0 : n = 0
  · subst h0
    have hln : l.length = 0 := by rw [← len_volL]; exact vols_len hv
    have HS := St.nil w noF
    refine enter_en Tryd.func18 rfl Tryd.ntmps18 (Nat.le_of_ble_eq_true rfl) fun a0 (HA0 : En 20 [(0, .string (strB q)), (1, .slice A 0 c)] a0) => ?_
    refine sq_ <| rl_ <| wl_ <| p_ HA0 rfl rfl fun a1 H1 => ln_ <| nx <| sq_ <| sq_ <| rl_ <| wl_ <| p_ H1 rfl rfl fun a2 H2 => ln_ <| nx <| wp_block <| wp_unr 1 <| unr_go <| sq_ <| sq_ <| rl_ <| q_ H2 2 rfl fun a3 H3 => wl_ <| i_ H3 rfl (v := .int .i64 0) (dd_len rfl (H3.ev 7 rfl) Tryd.underlying22) fun a4 H4 => wl_ <| i_ H4 rfl (dd_cmp rfl (H4.ev 6 rfl) (H4.ev 8 rfl) (lt_f (by decide))) fun a5 H5 => ln_ <| nx <| cf_ H5 rfl <| wp_exit <| tx <| tx <| bx <| nx <| sq_ <| rl_ <| wl_ <| p_ H5 rfl rfl fun a6 H6 => ln_ <| nx <| wp_ret <| ret_run H6.env0 (res_t Tryd.results18 (H6.get 4 rfl)) <| ?_
    clear HA0 a0 H1 a1 H2 a2 H3 a3 H4 a4 H5 a5
    exact ⟨by rw [findI_none (fun j hj => absurd hj (by omega))], HS.below⟩
  · obtain ⟨b, o, rfl⟩ := vols_some hv (by omega)
    exact rfind_pos b o n c q l w hv hn
theorem met_size {M : List Bool} {F : List Int} (h : Met M F) : (metA M).size = 12 := by unfold metA; simp [h.1]
theorem met_fit {M : List Bool} {F : List Int} (h : Met M F) {i : Nat} (hi : i < 12) : Nat.blt i (metA M).size = true := by rw [met_size h]; exact Nat.ble_eq_true_of_le hi
theorem met_no {M : List Bool} {F : List Int} (h : Met M F) {x : Int} (h0 : 0 ≤ x) (h1 : x < 12) (hm : M.getD x.toNat false = false) : x ∉ F := fun hx => by
  have := (met_mem h h0 h1).2 hx
  rw [hm] at this; cases this
theorem flat_next {l : List Tv} {k j : Nat} {p : List (BitVec 8)} {L : List Int} (h : l[k]? = some (p, L)) (hj : L.length ≤ j) : flatB (l.take k) ++ L.take j = flatB (l.take (k + 1)) := by
  rw [flatB_take h, List.take_of_length_le hj]
theorem flat_step {F L : List Int} {j : Nat} (hj : j < L.length) : F ++ L.take j ++ [L.getD j 0] = F ++ L.take (j + 1) := by
  rw [List.take_add_one, List.getElem?_eq_getElem hj, List.getD_eq_getElem?_getD, List.getElem?_eq_getElem hj, ← List.append_assoc]; rfl
set_option maxHeartbeats 1600000 in
theorem rgoodt_pos (b o n c : Nat) (l : List Tv) (w : World) (hv : VolsAt w (.slice (some ⟨b, o, none⟩) n c) (volL l)) (hn : n ≤ 1000000) :
    Calls Tryd.prog 15 #[.slice (some ⟨b, o, none⟩) n c] w fun e w' => e = .returned (.bool (goodT l)) ∧ Below w.heap.size w w' := by
  have HS := St.nil w noF
  have HV : ∀ W, Below w.heap.size w W → VolsAt W (.slice (some ⟨b, o, none⟩) n c) (volL l) := fun W hb => hv.below hb (Nat.le_refl _)
  have hln : l.length = n := by rw [← len_volL]; exact vols_len hv
  refine enter_en Tryd.func15 rfl Tryd.ntmps15 (Nat.le_of_ble_eq_true rfl) fun a0 (HA0 : En 71 [(0, .slice (some ⟨b, o, none⟩) n c)] a0) => ?_
  refine sq_ <| rl_ <| wl_ <| p_ HA0 rfl rfl fun a1 H1 => ln_ <| nx <| sq_ <| sq_ <| rl_ <| wl_ <| p_ H1 rfl rfl fun a2 H2 => wl_ <| i_ H2 rfl (v := .int .i64 n) (dd_len rfl (H2.ev 8 rfl) Tryd.underlying22) fun a3 H3 => ?_
  clear HA0 a0 H1 a1 H2 a2
  by_cases hc5 : (3 : Int) < n
  ·
   refine wl_ <| i_ H3 rfl (dd_cmp rfl (H3.ev 9 rfl) rfl (gt_t hc5)) fun a6 H6 => ln_ <| nx <| ct_ H6 rfl <| sq_ <| rl_ <| wl_ <| p_ H6 rfl rfl fun a7 H7 => ln_ <| nx <| wp_ret <| tr <| ret_run H7.env0 (res_t Tryd.results15 (H7.get 2 rfl)) <| ?_
   clear H3 a3 H6 a6
   exact ⟨by rw [goodT_long (by omega)], HS.below⟩
  ·
   refine wl_ <| i_ H3 rfl (dd_cmp rfl (H3.ev 9 rfl) rfl (gt_f hc5)) fun a8 H8 => ln_ <| nx <| cf_ H8 rfl <| wp_skip <| nx <| sq_ <| rl_ <| wl_ <| n_ H8 rfl (fun _ h => dd_new HS #[.bool false, .bool false, .bool false, .bool false, .bool false, .bool false, .bool false, .bool false, .bool false, .bool false, .bool false, .bool false] rfl (z := .agg #[.bool false, .bool false, .bool false, .bool false, .bool false, .bool false, .bool false, .bool false, .bool false, .bool false, .bool false, .bool false]) (by kernel_rfl) rfl h) fun g3 W9 HS9 a9 H9 => ln_ <| nx <| sq_ <| sq_ <| rl_ <| wl_ <| p_ H9 rfl rfl fun a10 H10 => ln_ <| nx <| wp_block <| ?_
   clear H3 a3 HS H8 a8 H9 a9
   refine wp_loopG (ι := Nat) (fun k a9 w9 => ∃ M : List Bool, (k ≤ n) ∧ (∀ j, j < k → ∀ x, l[j]? = some x → okT l j x = true) ∧ (Met M (flatB (l.take k))) ∧ (okF (flatB (l.take k))) ∧ En 71 [(4, .int .i64 k), (3, .pointer (some ⟨g3, 0, none⟩)), (0, .slice (some ⟨b, o, none⟩) n c)] a9 ∧ St w noF [⟨g3, 58, metA M⟩] w9) (fun k => n - k) (0) ⟨(List.replicate 12 false), Nat.zero_le _, (fun j hj => absurd hj (Nat.not_lt_zero _)), met_nil, ((cntF_ok []).1 (by decide)), H10.sel [0, 3, 4] rfl, ss HS9 [0]⟩ ?_
   clear H10 a10 HS9
   rintro k aL11 wL11 ⟨M, hk, hok, hM, hF, HL11, HSL11⟩
   refine sq_ <| sq_ <| rl_ <| q_ HL11 2 rfl fun a12 H12 => wl_ <| i_ H12 rfl (v := .int .i64 n) (dd_len rfl (H12.ev 12 rfl) Tryd.underlying22) fun a13 H13 => ?_
   clear HL11 aL11 H12 a12
   by_cases hc15 : (k : Int) < n
   ·
    refine wl_ <| i_ H13 rfl (dd_cmp rfl (H13.ev 11 rfl) (H13.ev 13 rfl) (lt_t hc15)) fun a16 H16 => ln_ <| nx <| ct_ H16 rfl <| wp_skip <| nx <| sq_ <| wp_block <| sq_ <| rl_ <| q_ H16 2 rfl fun a17 H17 => wl_ <| i_ H17 rfl (xSo 2 (o + k * 2) rfl (H17.ev 17 rfl) (H17.ev 18 rfl)) fun a18 H18 => ?_
    clear H13 a13 H16 a16 H17 a17
    obtain ⟨p20, L20, B20, m20, c20, hg20, hr20, hm20, hp20⟩ := vols_getC (HV _ (Below.refl _ _)) (k := k) (by omega)
    refine wl_ <| i_ H18 rfl (v := .agg #[.string (strB p20), .slice B20 m20 c20]) (dd_atN rfl (H18.ev 19 rfl) (hr20 _ HSL11.below).1 Tryd.underlying45 rfl (by kernel_rfl)) fun a19 H19 => wl_ <| n_ H19 rfl (fun _ h => dd_new HSL11 #[.string (⟨#[]⟩), .slice none 0 0] rfl (z := .agg #[.string (⟨#[]⟩), .slice none 0 0]) (by kernel_rfl) rfl h) fun g5 W21 HS21 a21 H21 => wl_ <| t_ rfl (fun _ h => dd_setrow HS21 1 rfl rfl (H21.ev 5 rfl) (H21.ev 20 rfl) (by kernel_rfl) (rfl : #[.string (strB p20), .slice B20 m20 c20].size = 2) (rfl : #[.string (⟨#[]⟩), .slice none 0 0].size = 2) (one_l (ao_cons rfl (ao_cons rfl ao_nil))) h) fun W22 HS22 => ln_ <| nx <| sq_ <| sq_ <| rl_ <| wl_ <| i_ H21 rfl (xf 0 0 rfl (H21.ev 5 rfl)) fun a23 H23 => wl_ <| i_ H23 rfl (dd_get HS22 1 0 rfl rfl (H23.ev 21 rfl) rfl Tryd.underlying9 rfl) fun a24 H24 => wl_ <| n_ H24 rfl (fun _ h => dd_lits HS22 #[.string (strB p20)] rfl (ps := [(0, .string (strB p20))]) (pr1 (H24.ev 22 rfl) (pr0)) (z := .string (⟨#[]⟩)) (sz := 1) Tryd.underlying60 (by kernel_rfl) rfl rfl (by kernel_rfl) h) fun g23 W25 HS25 a25 H25 => ?_
    clear H18 a18 HSL11 H19 a19 HS21 H21 a21 H23 a23 HS22 H24 a24
    cases hb27 : goodN p20
    case false =>
     refine wl_ <| ic H25 rfl (v := .bool false) (dc_ Tryd.func25 rfl (args1 (H25.ev 23 rfl)) (refgoodn_any [p20] _ W25 (strs_row (HS25.row 2 rfl) hp20) (by unfold maxLen; simp)) (fun _ w9 h9 => ⟨_, h9.1, by rw [goodNs_oneT, hb27], h9.2.symm⟩)) fun a28 H28 => wl_ <| i_ H28 rfl (v := .bool true) (dd_nt rfl (H28.ev 24 rfl) rfl) fun a29 H29 => wl_ <| p_ H29 rfl rfl fun a30 H30 => wl_ <| k_ H30 (wg_ H30 rfl rfl rfl rfl) rfl fun a31 H31 => wl_ <| k_ H31 (wg_ H31 rfl rfl rfl rfl) rfl fun a32 H32 => wl_ <| k_ H32 (wg_ H32 rfl rfl rfl rfl) rfl fun a33 H33 => wl_ <| k_ H33 (wg_ H33 rfl rfl rfl rfl) rfl fun a34 H34 => wl_ <| k_ H34 (wg_ H34 rfl rfl rfl rfl) rfl fun a35 H35 => ?_
     clear H25 a25 H28 a28 H29 a29 H30 a30 H31 a31 H32 a32 H33 a33
     refine wl_ <| k_ H35 (wg_ H35 rfl rfl rfl rfl) rfl fun a36 H36 => q_ H36 2 rfl fun a37 H37 => wl_ <| k_ H37 (wg_ H37 rfl rfl rfl rfl) rfl fun a38 H38 => wl_ <| k_ H38 (wg_ H38 rfl rfl rfl rfl) rfl fun a39 H39 => wl_ <| k_ H39 (wg_ H39 rfl rfl rfl rfl) rfl fun a40 H40 => wl_ <| k_ H40 (wg_ H40 rfl rfl rfl rfl) rfl fun a41 H41 => q_ H41 2 rfl fun a42 H42 => wl_ <| k_ H42 (wg_ H42 rfl rfl rfl rfl) rfl fun a43 H43 => ?_
     clear H34 a34 H35 a35 H36 a36 H37 a37 H38 a38 H39 a39 H40 a40 H41 a41
     refine wl_ <| k_ H43 (wg_ H43 rfl rfl rfl rfl) rfl fun a44 H44 => wl_ <| k_ H44 (wg_ H44 rfl rfl rfl rfl) rfl fun a45 H45 => wl_ <| k_ H45 (wg_ H45 rfl rfl rfl rfl) rfl fun a46 H46 => wl_ <| p_ H46 rfl rfl fun a47 H47 => ln_ <| ?_
     clear H42 a42 H43 a43 H44 a44 H45 a45 H46 a46
     have H48 := H47.sel [0, 3, 4, 5, 45] rfl
     refine nx <| ct_ H48 rfl <| sq_ <| rl_ <| wl_ <| p_ H48 rfl rfl fun a49 H49 => ln_ <| nx <| wp_ret <| tr <| br_ <| tr <| tr <| br_ <| tr <| ret_run H49.env0 (res_t Tryd.results15 (H49.get 2 rfl)) <| ?_
     clear H47 H48 a47
     exact ⟨by rw [goodT_no hg20 (okT_no (fun h => by rw [hb27] at h; cases h.1))], HS25.below⟩
    case true =>
     refine wl_ <| ic H25 rfl (v := .bool true) (dc_ Tryd.func25 rfl (args1 (H25.ev 23 rfl)) (refgoodn_any [p20] _ W25 (strs_row (HS25.row 2 rfl) hp20) (by unfold maxLen; simp)) (fun _ w9 h9 => ⟨_, h9.1, by rw [goodNs_oneT, hb27], h9.2.symm⟩)) fun a50 H50 => wl_ <| i_ H50 rfl (v := .bool false) (dd_nt rfl (H50.ev 24 rfl) rfl) fun a51 H51 => wl_ <| p_ H51 rfl rfl fun a52 H52 => wl_ <| ig H52 (wg_ H52 rfl rfl rfl rfl) rfl (xf 0 0 rfl (H52.ev 5 rfl)) fun a53 H53 => wl_ <| ig H53 (wg_ H53 rfl rfl rfl rfl) rfl (dd_get HS25 1 0 rfl rfl (H53.ev 27 rfl) rfl Tryd.underlying9 rfl) fun a54 H54 => wl_ <| ig H54 (wg_ H54 rfl rfl rfl rfl) rfl (dd_mv rfl (H54.ev 0 rfl)) fun a55 H55 => wl_ <| cg H55 (wg_ H55 rfl rfl rfl rfl) rfl HS25 (dcs Tryd.func18 rfl (args2 (H55.ev 28 rfl) (H55.ev 29 rfl)) (rfind_any _ _ _ p20 l W25 (HV _ HS25.below) hn) (.int .i64 (findI p20 l))) fun W56 HS56 a56 H56 => wl_ <| ig H56 (wg_ H56 rfl rfl rfl rfl) rfl (dd_mv rfl (H56.ev 4 rfl)) fun a57 H57 => ?_
     clear H25 a25 H50 a50 H51 a51 H52 a52 H53 a53 H54 a54 H55 a55 HS25
     clear H56 a56
     by_cases hc59 : (findI p20 l : Int) = k
     ·
      refine wl_ <| ig H57 (wg_ H57 rfl rfl rfl rfl) rfl (dd_cmp rfl (H57.ev 30 rfl) (H57.ev 31 rfl) (ne_f hc59)) fun a60 H60 => q_ H60 2 rfl fun a61 H61 => wl_ <| ig H61 (wg_ H61 rfl rfl rfl rfl) rfl (xf 1 1 rfl (H61.ev 5 rfl)) fun a62 H62 => wl_ <| ig H62 (wg_ H62 rfl rfl rfl rfl) rfl (dd_get HS56 1 1 rfl rfl (H62.ev 35 rfl) rfl Tryd.underlying43 rfl) fun a63 H63 => wl_ <| ig H63 (wg_ H63 rfl rfl rfl rfl) rfl (v := .int .i64 m20) (dd_len rfl (H63.ev 36 rfl) Tryd.underlying43) fun a64 H64 => ?_
      clear H57 a57 H60 a60 H61 a61 H62 a62 H63 a63
      by_cases hc66 : (m20 : Int) < 1
      ·
       refine wl_ <| ig H64 (wg_ H64 rfl rfl rfl rfl) rfl (dd_cmp rfl (H64.ev 37 rfl) rfl (lt_t hc66)) fun a67 H67 => q_ H67 2 rfl fun a68 H68 => wl_ <| k_ H68 (wg_ H68 rfl rfl rfl rfl) rfl fun a69 H69 => wl_ <| k_ H69 (wg_ H69 rfl rfl rfl rfl) rfl fun a70 H70 => wl_ <| k_ H70 (wg_ H70 rfl rfl rfl rfl) rfl fun a71 H71 => wl_ <| k_ H71 (wg_ H71 rfl rfl rfl rfl) rfl fun a72 H72 => wl_ <| p_ H72 rfl rfl fun a73 H73 => ln_ <| ?_
       clear H64 a64 H67 a67 H68 a68 H69 a69 H70 a70 H71 a71 H72 a72
       have H74 := H73.sel [0, 3, 4, 5, 45] rfl
       refine nx <| ct_ H74 rfl <| sq_ <| rl_ <| wl_ <| p_ H74 rfl rfl fun a75 H75 => ln_ <| nx <| wp_ret <| tr <| br_ <| tr <| tr <| br_ <| tr <| ret_run H75.env0 (res_t Tryd.results15 (H75.get 2 rfl)) <| ?_
       clear H73 H74 a73
       exact ⟨by rw [goodT_no hg20 (okT_no (fun h => by obtain ⟨h1, h2, h3, h4⟩ := h; simp only at h1 h2 h3 h4; omega))], HS56.below⟩
      ·
       refine wl_ <| ig H64 (wg_ H64 rfl rfl rfl rfl) rfl (dd_cmp rfl (H64.ev 37 rfl) rfl (lt_f hc66)) fun a76 H76 => q_ H76 2 rfl fun a77 H77 => wl_ <| ig H77 (wg_ H77 rfl rfl rfl rfl) rfl (xf 1 1 rfl (H77.ev 5 rfl)) fun a78 H78 => wl_ <| ig H78 (wg_ H78 rfl rfl rfl rfl) rfl (dd_get HS56 1 1 rfl rfl (H78.ev 41 rfl) rfl Tryd.underlying43 rfl) fun a79 H79 => wl_ <| ig H79 (wg_ H79 rfl rfl rfl rfl) rfl (v := .int .i64 m20) (dd_len rfl (H79.ev 42 rfl) Tryd.underlying43) fun a80 H80 => ?_
       clear H64 a64 H76 a76 H77 a77 H78 a78 H79 a79
       by_cases hc82 : (4 : Int) < m20
       ·
        refine wl_ <| ig H80 (wg_ H80 rfl rfl rfl rfl) rfl (dd_cmp rfl (H80.ev 43 rfl) rfl (gt_t hc82)) fun a83 H83 => wl_ <| p_ H83 rfl rfl fun a84 H84 => ln_ <| ?_
        clear H80 a80 H83 a83
        have H85 := H84.sel [0, 3, 4, 5, 45] rfl
        refine nx <| ct_ H85 rfl <| sq_ <| rl_ <| wl_ <| p_ H85 rfl rfl fun a86 H86 => ln_ <| nx <| wp_ret <| tr <| br_ <| tr <| tr <| br_ <| tr <| ret_run H86.env0 (res_t Tryd.results15 (H86.get 2 rfl)) <| ?_
        clear H84 H85 a84
        exact ⟨by rw [goodT_no hg20 (okT_no (fun h => by obtain ⟨h1, h2, h3, h4⟩ := h; simp only at h1 h2 h3 h4; omega))], HS56.below⟩
       ·
        refine wl_ <| ig H80 (wg_ H80 rfl rfl rfl rfl) rfl (dd_cmp rfl (H80.ev 43 rfl) rfl (gt_f hc82)) fun a87 H87 => wl_ <| p_ H87 rfl rfl fun a88 H88 => ln_ <| ?_
        clear H80 a80 H87 a87
        have H89 := H88.sel [0, 3, 4, 5, 45] rfl
        refine nx <| cf_ H89 rfl <| wp_skip <| nx <| sq_ <| rl_ <| wl_ <| p_ H89 rfl rfl fun a90 H90 => ln_ <| nx <| wp_block <| ?_
        clear H88 H89 a88
        refine wp_loopG (ι := Nat) (fun j a9 w9 => ∃ M2 : List Bool, (j ≤ m20) ∧ (Met M2 (flatB (l.take k) ++ L20.take j)) ∧ (okF (flatB (l.take k) ++ L20.take j)) ∧ En 71 [(6, .int .i64 j), (5, .pointer (some ⟨g5, 0, none⟩)), (4, .int .i64 k), (3, .pointer (some ⟨g3, 0, none⟩)), (0, .slice (some ⟨b, o, none⟩) n c)] a9 ∧ St w noF [⟨g3, 58, metA M2⟩, ⟨g5, 45, #[.string (strB p20), .slice B20 m20 c20]⟩, ⟨g23, 9, #[.string (strB p20)]⟩] w9) (fun j => m20 - j) (0) ⟨M, Nat.zero_le _, (by rw [List.take_zero, List.append_nil]; exact hM), (by rw [List.take_zero, List.append_nil]; exact hF), H90.sel [0, 3, 4, 5, 6] rfl, ss HS56 [0, 1, 2]⟩ ?_
        clear H90 a90 HS56
        rintro j aL91 wL91 ⟨M2, hj, hM2, hF2, HL91, HSL91⟩
        refine sq_ <| sq_ <| rl_ <| wl_ <| p_ HL91 rfl rfl fun a92 H92 => wl_ <| i_ H92 rfl (xf 1 1 rfl (H92.ev 5 rfl)) fun a93 H93 => wl_ <| i_ H93 rfl (dd_get HSL91 1 1 rfl rfl (H93.ev 47 rfl) rfl Tryd.underlying43 rfl) fun a94 H94 => wl_ <| i_ H94 rfl (v := .int .i64 m20) (dd_len rfl (H94.ev 48 rfl) Tryd.underlying43) fun a95 H95 => ?_
        clear HL91 aL91 H92 a92 H93 a93 H94 a94
        by_cases hc97 : (j : Int) < m20
        ·
         refine wl_ <| i_ H95 rfl (dd_cmp rfl (H95.ev 46 rfl) (H95.ev 49 rfl) (lt_t hc97)) fun a98 H98 => ln_ <| nx <| ct_ H98 rfl <| wp_skip <| nx <| sq_ <| wp_block <| sq_ <| rl_ <| wl_ <| i_ H98 rfl (xf 1 1 rfl (H98.ev 5 rfl)) fun a99 H99 => wl_ <| i_ H99 rfl (dd_get HSL91 1 1 rfl rfl (H99.ev 53 rfl) rfl Tryd.underlying43 rfl) fun a100 H100 => wl_ <| p_ H100 rfl rfl fun a101 H101 => ?_
         clear H95 a95 H98 a98 H99 a99 H100 a100
         obtain ⟨bi20, oi20, hB20⟩ := ints_addr (hr20 _ (Below.refl _ _)).2 (by omega)
         refine wl_ <| i_ H101 rfl (dd_idxS (sz := 1) (j := oi20 + j) rfl (sl_at (H101.ev 54 rfl) hB20) (H101.ev 55 rfl) (by kernel_rfl) (by omega) (by omega) (by omega)) fun a102 H102 => wl_ <| i_ H102 rfl (dd_at rfl (H102.ev 56 rfl) (ints_atB (hr20 _ HSL91.below).2 hB20 j (by omega)) Tryd.underlying3 rfl) fun a103 H103 => wl_ <| p_ H103 rfl rfl fun a104 H104 => ln_ <| nx <| sq_ <| sq_ <| rl_ <| wl_ <| p_ H104 rfl rfl fun a105 H105 => ?_
         clear H101 a101 H102 a102 H103 a103 H104 a104
         by_cases hc107 : (L20.getD j 0 : Int) < 1
         ·
          refine wl_ <| i_ H105 rfl (dd_cmp rfl (H105.ev 58 rfl) rfl (lt_t hc107)) fun a108 H108 => wl_ <| p_ H108 rfl rfl fun a109 H109 => wl_ <| k_ H109 (wg_ H109 rfl rfl rfl rfl) rfl fun a110 H110 => wl_ <| k_ H110 (wg_ H110 rfl rfl rfl rfl) rfl fun a111 H111 => q_ H111 2 rfl fun a112 H112 => wl_ <| k_ H112 (wg_ H112 rfl rfl rfl rfl) rfl fun a113 H113 => wl_ <| k_ H113 (wg_ H113 rfl rfl rfl rfl) rfl fun a114 H114 => wl_ <| k_ H114 (wg_ H114 rfl rfl rfl rfl) rfl fun a115 H115 => ?_
          clear H105 a105 H108 a108 H109 a109 H110 a110 H111 a111 H112 a112 H113 a113
          refine wl_ <| p_ H115 rfl rfl fun a116 H116 => ln_ <| ?_
          clear H114 a114 H115 a115
          have H117 := H116.sel [0, 3, 4, 5, 6, 7, 68] rfl
          refine nx <| ct_ H117 rfl <| sq_ <| rl_ <| wl_ <| p_ H117 rfl rfl fun a118 H118 => ln_ <| nx <| wp_ret <| tr <| br_ <| tr <| tr <| br_ <| br_ <| tr <| tr <| br_ <| tr <| ret_run H118.env0 (res_t Tryd.results15 (H118.get 2 rfl)) <| ?_
          clear H116 H117 a116
          exact ⟨by rw [goodT_noF hg20 (okF_bad (fun h9 => by omega)) (show j < L20.length by omega)], HSL91.below⟩
         ·
          refine wl_ <| i_ H105 rfl (dd_cmp rfl (H105.ev 58 rfl) rfl (lt_f hc107)) fun a119 H119 => wl_ <| p_ H119 rfl rfl fun a120 H120 => wl_ <| ig H120 (wg_ H120 rfl rfl rfl rfl) rfl (dd_mv rfl (H120.ev 7 rfl)) fun a121 H121 => ?_
          clear H105 a105 H119 a119 H120 a120
          by_cases hc123 : (12 : Int) ≤ L20.getD j 0
          ·
           refine wl_ <| ig H121 (wg_ H121 rfl rfl rfl rfl) rfl (dd_cmp rfl (H121.ev 61 rfl) rfl (ge_t hc123)) fun a124 H124 => q_ H124 2 rfl fun a125 H125 => wl_ <| k_ H125 (wg_ H125 rfl rfl rfl rfl) rfl fun a126 H126 => wl_ <| k_ H126 (wg_ H126 rfl rfl rfl rfl) rfl fun a127 H127 => wl_ <| k_ H127 (wg_ H127 rfl rfl rfl rfl) rfl fun a128 H128 => wl_ <| p_ H128 rfl rfl fun a129 H129 => ln_ <| ?_
           clear H121 a121 H124 a124 H125 a125 H126 a126 H127 a127 H128 a128
           have H130 := H129.sel [0, 3, 4, 5, 6, 7, 68] rfl
           refine nx <| ct_ H130 rfl <| sq_ <| rl_ <| wl_ <| p_ H130 rfl rfl fun a131 H131 => ln_ <| nx <| wp_ret <| tr <| br_ <| tr <| tr <| br_ <| br_ <| tr <| tr <| br_ <| tr <| ret_run H131.env0 (res_t Tryd.results15 (H131.get 2 rfl)) <| ?_
           clear H129 H130 a129
           exact ⟨by rw [goodT_noF hg20 (okF_bad (fun h9 => by omega)) (show j < L20.length by omega)], HSL91.below⟩
          ·
           refine wl_ <| ig H121 (wg_ H121 rfl rfl rfl rfl) rfl (dd_cmp rfl (H121.ev 61 rfl) rfl (ge_f hc123)) fun a132 H132 => q_ H132 2 rfl fun a133 H133 => wl_ <| ig H133 (wg_ H133 rfl rfl rfl rfl) rfl (dd_mv rfl (H133.ev 7 rfl)) fun a134 H134 => wl_ <| ig H134 (wg_ H134 rfl rfl rfl rfl) rfl (xAo 12 1 (Int.toNat (L20.getD j 0)) rfl (H134.ev 3 rfl) (H134.ev 65 rfl)) fun a135 H135 => ?_
           clear H121 a121 H132 a132 H133 a133 H134 a134
           cases hb137 : M2.getD (Int.toNat (L20.getD j 0)) false
           case false =>
            refine wl_ <| ig H135 (wg_ H135 rfl rfl rfl rfl) rfl (v := .bool false) (dd_get HSL91 0 (Int.toNat (L20.getD j 0)) rfl rfl (H135.ev 66 rfl) ((met_get hM2 (Int.toNat (L20.getD j 0)) (by omega)).trans (by rw [hb137])) Tryd.underlying4 rfl) fun a138 H138 => wl_ <| p_ H138 rfl rfl fun a139 H139 => ln_ <| ?_
            clear H135 a135 H138 a138
            have H140 := H139.sel [0, 3, 4, 5, 6, 7, 68] rfl
            refine nx <| cf_ H140 rfl <| wp_skip <| nx <| rl_ <| wl_ <| p_ H140 rfl rfl fun a141 H141 => wl_ <| i_ H141 rfl (xAo 12 1 (Int.toNat (L20.getD j 0)) rfl (H141.ev 3 rfl) (H141.ev 69 rfl)) fun a142 H142 => wl_ <| t_ rfl (S := [⟨g3, 58, metA (M2.set (Int.toNat (L20.getD j 0)) true)⟩, ⟨g5, 45, #[.string (strB p20), .slice B20 m20 c20]⟩, ⟨g23, 9, #[.string (strB p20)]⟩]) (fun _ h => dd_put HSL91 0 (Int.toNat (L20.getD j 0)) rfl rfl (H142.ev 70 rfl) rfl (by kernel_rfl) rfl rfl (met_fit hM2 (by omega)) (met_put M2 _) h) fun W143 HS143 => ln_ <| bn <| nx <| rl_ <| wl_ <| p_ H142 rfl rfl fun a144 H144 => wl_ <| i_ H144 rfl (v := .int .i64 (j + 1)) (dd_ari rfl (H144.ev 51 rfl) rfl rfl (i64_of (by first | omega | (have := bd_lo; omega)) (by omega))) fun a145 H145 => wl_ <| p_ H145 rfl rfl fun a146 H146 => ln_ <| ?_
            clear H139 H140 a139 H141 a141 HSL91 H142 a142 H144 a144 H145 a145
            refine nx ⟨j + 1, ⟨(M2.set (Int.toNat (L20.getD j 0)) true), (by omega), (by rw [← flat_step (show j < L20.length by omega)]; exact met_step hM2 (by omega) (by omega)), (by rw [← flat_step (show j < L20.length by omega)]; exact okF_snoc hF2 (met_no hM2 (by omega) (by omega) hb137) (by omega) (by omega)), H146.sel [0, 3, 4, 5, 6] rfl, ss HS143 [0, 1, 2]⟩, (by omega)⟩
           case true =>
            refine wl_ <| ig H135 (wg_ H135 rfl rfl rfl rfl) rfl (v := .bool true) (dd_get HSL91 0 (Int.toNat (L20.getD j 0)) rfl rfl (H135.ev 66 rfl) ((met_get hM2 (Int.toNat (L20.getD j 0)) (by omega)).trans (by rw [hb137])) Tryd.underlying4 rfl) fun a147 H147 => wl_ <| p_ H147 rfl rfl fun a148 H148 => ln_ <| ?_
            clear H135 a135 H147 a147
            have H149 := H148.sel [0, 3, 4, 5, 6, 7, 68] rfl
            refine nx <| ct_ H149 rfl <| sq_ <| rl_ <| wl_ <| p_ H149 rfl rfl fun a150 H150 => ln_ <| nx <| wp_ret <| tr <| br_ <| tr <| tr <| br_ <| br_ <| tr <| tr <| br_ <| tr <| ret_run H150.env0 (res_t Tryd.results15 (H150.get 2 rfl)) <| ?_
            clear H148 H149 a148
            exact ⟨by rw [goodT_noF hg20 (okF_bad (fun h9 => h9.2 ((met_mem hM2 (by omega) (by omega)).1 hb137))) (show j < L20.length by omega)], HSL91.below⟩
        ·
         refine wl_ <| i_ H95 rfl (dd_cmp rfl (H95.ev 46 rfl) (H95.ev 49 rfl) (lt_f hc97)) fun a151 H151 => ln_ <| nx <| cf_ H151 rfl <| wp_exit <| tx <| tx <| bx <| bn <| nx <| rl_ <| wl_ <| p_ H151 rfl rfl fun a152 H152 => wl_ <| i_ H152 rfl (v := .int .i64 (k + 1)) (dd_ari rfl (H152.ev 15 rfl) rfl rfl (i64_of (by first | omega | (have := bd_lo; omega)) (by omega))) fun a153 H153 => wl_ <| p_ H153 rfl rfl fun a154 H154 => ln_ <| ?_
         clear H95 a95 H151 a151 H152 a152 H153 a153
         refine nx ⟨k + 1, ⟨M2, (by omega), (step_ok hok hg20 (okT_of hb27 hc59 (by simp only; omega) (by simp only; omega))), (by rw [← flat_next hg20 (show L20.length ≤ j by omega)]; exact hM2), (by rw [← flat_next hg20 (show L20.length ≤ j by omega)]; exact hF2), H154.sel [0, 3, 4] rfl, ss HSL91 [0]⟩, (by omega)⟩
     ·
      refine wl_ <| ig H57 (wg_ H57 rfl rfl rfl rfl) rfl (dd_cmp rfl (H57.ev 30 rfl) (H57.ev 31 rfl) (ne_t hc59)) fun a155 H155 => q_ H155 2 rfl fun a156 H156 => wl_ <| k_ H156 (wg_ H156 rfl rfl rfl rfl) rfl fun a157 H157 => wl_ <| k_ H157 (wg_ H157 rfl rfl rfl rfl) rfl fun a158 H158 => wl_ <| k_ H158 (wg_ H158 rfl rfl rfl rfl) rfl fun a159 H159 => wl_ <| k_ H159 (wg_ H159 rfl rfl rfl rfl) rfl fun a160 H160 => q_ H160 2 rfl fun a161 H161 => wl_ <| k_ H161 (wg_ H161 rfl rfl rfl rfl) rfl fun a162 H162 => ?_
      clear H57 a57 H155 a155 H156 a156 H157 a157 H158 a158 H159 a159 H160 a160
      refine wl_ <| k_ H162 (wg_ H162 rfl rfl rfl rfl) rfl fun a163 H163 => wl_ <| k_ H163 (wg_ H163 rfl rfl rfl rfl) rfl fun a164 H164 => wl_ <| k_ H164 (wg_ H164 rfl rfl rfl rfl) rfl fun a165 H165 => wl_ <| p_ H165 rfl rfl fun a166 H166 => ln_ <| ?_
      clear H161 a161 H162 a162 H163 a163 H164 a164 H165 a165
      have H167 := H166.sel [0, 3, 4, 5, 45] rfl
      refine nx <| ct_ H167 rfl <| sq_ <| rl_ <| wl_ <| p_ H167 rfl rfl fun a168 H168 => ln_ <| nx <| wp_ret <| tr <| br_ <| tr <| tr <| br_ <| tr <| ret_run H168.env0 (res_t Tryd.results15 (H168.get 2 rfl)) <| ?_
      clear H166 H167 a166
      exact ⟨by rw [goodT_no hg20 (okT_no (fun h => by obtain ⟨h1, h2, h3, h4⟩ := h; simp only at h1 h2 h3 h4; omega))], HS56.below⟩
   ·
    refine wl_ <| i_ H13 rfl (dd_cmp rfl (H13.ev 11 rfl) (H13.ev 13 rfl) (lt_f hc15)) fun a169 H169 => ln_ <| nx <| cf_ H169 rfl <| wp_exit <| tx <| tx <| bx <| nx <| sq_ <| rl_ <| wl_ <| p_ H169 rfl rfl fun a170 H170 => ln_ <| nx <| wp_ret <| ret_run H170.env0 (res_t Tryd.results15 (H170.get 2 rfl)) <| ?_
    clear H13 a13 H169 a169
    exact ⟨by rw [goodT_is (b := true) (by omega) (fun j hj => hok j (by omega)) ((free_okF l).2 (by rw [List.take_of_length_le (by omega)] at hF; exact hF))], HSL11.below⟩
set_option maxHeartbeats 800000 in
theorem rgoodt_zero (A : Option Addr) (c : Nat) (l : List Tv) (w : World) (hv : VolsAt w (.slice A 0 c) (volL l)) :
    Calls Tryd.prog 15 #[.slice A 0 c] w fun e w' => e = .returned (.bool (goodT l)) ∧ Below w.heap.size w w' := by
  have HS := St.nil w noF
  have hln : l.length = 0 := by rw [← len_volL]; exact vols_len hv
  have hok : ∀ j, j < l.length → ∀ x, l[j]? = some x → okT l j x = true := fun j hj => absurd hj (by omega)
  have hF : okF (flatB (l.take 0)) := (cntF_ok []).1 (by decide)
  refine enter_en Tryd.func15 rfl Tryd.ntmps15 (Nat.le_of_ble_eq_true rfl) fun a0 (HA0 : En 71 [(0, .slice A 0 c)] a0) => ?_
  refine sq_ <| rl_ <| wl_ <| p_ HA0 rfl rfl fun a1 H1 => ln_ <| nx <| sq_ <| sq_ <| rl_ <| wl_ <| p_ H1 rfl rfl fun a2 H2 => wl_ <| i_ H2 rfl (v := .int .i64 0) (dd_len rfl (H2.ev 8 rfl) Tryd.underlying22) fun a3 H3 => wl_ <| i_ H3 rfl (dd_cmp rfl (H3.ev 9 rfl) rfl (gt_f (by decide))) fun a4 H4 => ln_ <| nx <| cf_ H4 rfl <| wp_skip <| nx <| sq_ <| rl_ <| wl_ <| n_ H4 rfl (fun _ h => dd_new HS #[.bool false, .bool false, .bool false, .bool false, .bool false, .bool false, .bool false, .bool false, .bool false, .bool false, .bool false, .bool false] rfl (z := .agg #[.bool false, .bool false, .bool false, .bool false, .bool false, .bool false, .bool false, .bool false, .bool false, .bool false, .bool false, .bool false]) (by kernel_rfl) rfl h) fun g3 W5 HS5 a5 H5 => ln_ <| nx <| sq_ <| sq_ <| rl_ <| wl_ <| p_ H5 rfl rfl fun a6 H6 => ln_ <| nx <| wp_block <| wp_unr 1 <| unr_go <| sq_ <| sq_ <| rl_ <| q_ H6 2 rfl fun a7 H7 => wl_ <| i_ H7 rfl (v := .int .i64 0) (dd_len rfl (H7.ev 12 rfl) Tryd.underlying22) fun a8 H8 => ?_
  clear HA0 a0 H1 a1 H2 a2 H3 a3 HS H4 a4 H5 a5 H6 a6
  refine wl_ <| i_ H8 rfl (dd_cmp rfl (H8.ev 11 rfl) (H8.ev 13 rfl) (lt_f (by decide))) fun a9 H9 => ln_ <| nx <| cf_ H9 rfl <| wp_exit <| tx <| tx <| bx <| nx <| sq_ <| rl_ <| wl_ <| p_ H9 rfl rfl fun a10 H10 => ln_ <| nx <| wp_ret <| ret_run H10.env0 (res_t Tryd.results15 (H10.get 2 rfl)) <| ?_
  clear H7 a7 H8 a8 H9 a9
  exact ⟨by rw [goodT_is (b := true) (by omega) (fun j hj => hok j (by omega)) ((free_okF l).2 (by rw [List.take_of_length_le (by omega)] at hF; exact hF))], HS5.below⟩
theorem rgoodt_any (A : Option Addr) (n c : Nat) (l : List Tv) (w : World) (hv : VolsAt w (.slice A n c) (volL l)) (hn : n ≤ 1000000) :
    Calls Tryd.prog 15 #[.slice A n c] w fun e w' => e = .returned (.bool (goodT l)) ∧ Below w.heap.size w w' := by
  by_cases h0 : n = 0
  · subst h0; exact rgoodt_zero A c l w hv
  · obtain ⟨b, o, rfl⟩ := vols_some hv (by omega)
    exact rgoodt_pos b o n c l w hv hn
end Go.Proofs.YtpmedgibnnonkaaDoor

/- The document's tables: Encode. -/
set_option maxRecDepth 4000
namespace Go.Proofs.YtpmedgibnnonkaaDoor
open Go Go.RowKit
end Go.Proofs.YtpmedgibnnonkaaDoor

/- The document's name of four bytes. -/
set_option maxRecDepth 4000
namespace Go.Proofs.YtpmedgibnnonkaaDoor
open Go Go.RowKit
attribute [local go_sem] strB_size
end Go.Proofs.YtpmedgibnnonkaaDoor

/- The document's tables: Decode. -/
set_option maxRecDepth 4000
namespace Go.Proofs.YtpmedgibnnonkaaDoor
open Go Go.RowKit
end Go.Proofs.YtpmedgibnnonkaaDoor

/- The document's tables: Decode of three volumes. -/
set_option maxRecDepth 4000
namespace Go.Proofs.YtpmedgibnnonkaaDoor
open Go Go.RowKit
end Go.Proofs.YtpmedgibnnonkaaDoor

/- The document's tables: Decode. -/
set_option maxRecDepth 4000
namespace Go.Proofs.YtpmedgibnnonkaaDoor
open Go Go.RowKit
end Go.Proofs.YtpmedgibnnonkaaDoor

/- Are two lists of ints alike? -/
set_option maxRecDepth 4000
namespace Go.Proofs.YtpmedgibnnonkaaDoor
open Go Go.RowKit
set_option maxRecDepth 20000 in
set_option maxHeartbeats 800000 in
theorem keepints_any (la lb : List Int) (A1 A2 : Option Addr) (n1 n2 c1 c2 : Nat) (w : World) (hu : IntsAt w (.slice A1 n1 c1) la) (hv : IntsAt w (.slice A2 n2 c2) lb) (hl : n1 ≤ 1000000) :
    Calls Tryd.prog 26 #[.slice A1 n1 c1, .slice A2 n2 c2] w fun e w' => e = .returned (.bool (decide (la = lb))) ∧ Below w.heap.size w w' := by
  have hln1 := ints_len hu
  have hln2 := ints_len hv
  obtain ⟨G, hG⟩ : ∃ G, decide (la = lb) = G := ⟨_, rfl⟩
  by_cases hlen : n1 = n2
  case neg =>
    have hG0 : G = false := by rw [← hG, decide_eq_false (fun h => hlen (by rw [← hln1, ← hln2, h]))]
    rw [hG, hG0]
    have hq : (n1 : Int) ≠ (n2 : Int) := by omega
    clear hu hv hG hlen hln1 hln2 hG0
    go_enter Tryd.func26, Tryd.ntmps26
    go_wp2_with fail
    go_ret
    exact ⟨rfl, Below.refl _ _⟩
  subst hlen
  have HF := Lib.hid (fun k (hk : k < la.length) => ints_get hu hk)
  have HF2 := Lib.hid (fun k (hk : k < lb.length) => ints_get hv hk)
  have HALL : Hid ((∀ i < n1, la[i]? = lb[i]?) → G = true) := Lib.hid fun h => by
    rw [← hG]
    refine decide_eq_true (List.ext_getElem? fun i => ?_)
    by_cases hi : i < n1
    · exact h i hi
    · rw [List.getElem?_eq_none (by omega), List.getElem?_eq_none (by omega)]
  have HNO : Hid (∀ k : Nat, la[k]? ≠ lb[k]? → G = false) := Lib.hid fun k h => by
    rw [← hG]; exact decide_eq_false (fun e => h (by rw [e]))
  have HL1 := Lib.hid hln1
  have HL2 := Lib.hid hln2
  obtain ⟨n, hn⟩ : ∃ n, n1 = n := ⟨_, rfl⟩
  rw [hG]
  rw [hn] at HALL HL1 HL2 hl ⊢
  clear hu hv hG hln1 hln2 hn
  go_enter Tryd.func26, Tryd.ntmps26
  go_wp2_with fail
  go_loopw [5] (fun i wr => ∃ k : Nat, k ≤ n ∧ i = .int .i64 k ∧ Hid (∀ j < k, la[j]? = lb[j]?) ∧ Below w.heap.size w wr) (fun i _ => n - (intOf i).toNat)
  case atStart => exact ⟨0, by omega, rfl, Lib.hid fun j hj => by omega, Below.refl _ _⟩
  case round =>
    obtain ⟨k, hk, rfl, HE, hB⟩ := hrel
    have HB := Lib.hid hB
    clear hB
    by_cases hlt : k < n
    · obtain ⟨b1, o1, x, hx1, rfl, hb1, hc1, _⟩ := HF.out k (by rw [HL1.out]; exact hlt)
      obtain ⟨b2, o2, y, hx2, rfl, hb2, hc2, _⟩ := HF2.out k (by rw [HL2.out]; exact hlt)
      obtain ⟨O1, hO1⟩ : ∃ O, o1 + k = O := ⟨_, rfl⟩
      obtain ⟨O2, hO2⟩ : ∃ O, o2 + k = O := ⟨_, rfl⟩
      rw [hO1] at hc1
      rw [hO2] at hc2
      have HX1 := Lib.hid hx1
      have HX2 := Lib.hid hx2
      have HC1 := Lib.hid hc1
      have HC2 := Lib.hid hc2
      have HW1 := Lib.hid hb1
      have HW2 := Lib.hid hb2
      have HO1 := Lib.hid hO1
      have HO2 := Lib.hid hO2
      have hk0 : (0 : Int) ≤ (k : Int) := by omega
      have hk1 : (k : Int) < (n : Int) := by omega
      clear hx1 hx2 hc1 hc2 hb1 hb2 hO1 hO2
      go_upto_region 6 with fail
      have hF0 : Wl [(fun W => Below w.heap.size w W)] 0 (World.drew _) := HB.out.drew
      by_cases hxy : x = y
      · have HQ : Hid ((x : Int) = y) := Lib.hid hxy
        have HXY := Lib.hid hxy
        clear hxy
        refine wp_region_phs [is (.slice (some ⟨b1, o1, none⟩) n c1), is (.int .i64 (k : Int)), is (.pointer (some ⟨b1, O1, none⟩)), is (.int .i64 x), is (.slice (some ⟨b2, o2, none⟩) n c2), is (.int .i64 (k : Int)), is (.pointer (some ⟨b2, O2, none⟩)), is (.int .i64 y), is (.bool false)] [true, true, true, true, true, true, true, true, true] [(fun W => Below w.heap.size w W)] [false, false, false, false, false, false, false, false, false] [some 0, some 0, some 0, some 0, some 0, some 0, some 0, some 0, some 0] [some 17, some 18, some 19, some 20, some 21, some 22, some 23, some 24, some 25] 9 0 (fun _ => true) rfl rfl (by kernel_rfl) (by kernel_rfl) (by kernel_rfl) (by kernel_rfl) ?_ ?_ ?_ ?_ ?_ ?_
        · repeat first | exact wok_nil | refine wok_cons (by first | exact fun _ _ h k => h.trans (k.mono h.size)) ?_
        · repeat first | exact vok_nil | refine vok_rig (by first | exact fun _ _ _ h => h) ?_ | refine vok_soft (by first | exact fun _ _ _ h _ => h) ?_
        · exact hF0
        · repeat first | exact all_end (by decide) | refine all_cons (by first | exact rfl | exact ⟨rfl, fun _ _ h => Or.inl h⟩ | exact ⟨rfl, fun _ _ h => Or.inr ⟨h, rfl⟩⟩) ?_
        · refine allp_mild 0 rfl rfl rfl (fun a x_ W hout hin hP => ?_) ?_
          · have e0 : a.tmps[0]? = some (.slice (some ⟨b1, o1, none⟩) n c1) := (hout 0 (by kernel_rfl)).trans rfl
            exact does_move rfl e0 ⟨Same.refl _, rfl⟩
          refine allp_mild 0 rfl rfl rfl (fun a x_ W hout hin hP => ?_) ?_
          · have e5 : a.tmps[5]? = some (.int .i64 (k : Int)) := (hout 5 (by kernel_rfl)).trans rfl
            exact does_move rfl e5 ⟨Same.refl _, rfl⟩
          refine allp_mild 0 rfl rfl rfl (fun a x_ W hout hin hP => ?_) ?_
          · have e17 := hin.is 0 17 (by kernel_rfl) (by decide) (by kernel_rfl) (by kernel_rfl) _ rfl
            have e18 := hin.is 1 18 (by kernel_rfl) (by decide) (by kernel_rfl) (by kernel_rfl) _ rfl
            have hO := HO1.out
            clear hin hout
            intro K Q hK
            go_simp
            exact hK _ _ ⟨Same.refl _, rfl⟩
          refine allp_mild 0 rfl rfl rfl (fun a x_ W hout hin hP => ?_) ?_
          · have e19 := hin.is 2 19 (by kernel_rfl) (by decide) (by kernel_rfl) (by kernel_rfl) _ rfl
            have hc : W.cell? ⟨b1, O1, none⟩ = some (.int .i64 x) := (hP.cell (p := ⟨b1, O1, none⟩) HW1.out).trans HC1.out
            clear hP
            clear hin hout
            intro K Q hK
            go_simp
            exact hK _ _ ⟨Same.refl _, rfl⟩
          refine allp_mild 0 rfl rfl rfl (fun a x_ W hout hin hP => ?_) ?_
          · have e1 : a.tmps[1]? = some (.slice (some ⟨b2, o2, none⟩) n c2) := (hout 1 (by kernel_rfl)).trans rfl
            exact does_move rfl e1 ⟨Same.refl _, rfl⟩
          refine allp_mild 0 rfl rfl rfl (fun a x_ W hout hin hP => ?_) ?_
          · have e5 : a.tmps[5]? = some (.int .i64 (k : Int)) := (hout 5 (by kernel_rfl)).trans rfl
            exact does_move rfl e5 ⟨Same.refl _, rfl⟩
          refine allp_mild 0 rfl rfl rfl (fun a x_ W hout hin hP => ?_) ?_
          · have e21 := hin.is 4 21 (by kernel_rfl) (by decide) (by kernel_rfl) (by kernel_rfl) _ rfl
            have e22 := hin.is 5 22 (by kernel_rfl) (by decide) (by kernel_rfl) (by kernel_rfl) _ rfl
            have hO := HO2.out
            clear hin hout
            intro K Q hK
            go_simp
            exact hK _ _ ⟨Same.refl _, rfl⟩
          refine allp_mild 0 rfl rfl rfl (fun a x_ W hout hin hP => ?_) ?_
          · have e23 := hin.is 6 23 (by kernel_rfl) (by decide) (by kernel_rfl) (by kernel_rfl) _ rfl
            have hc : W.cell? ⟨b2, O2, none⟩ = some (.int .i64 y) := (hP.cell (p := ⟨b2, O2, none⟩) HW2.out).trans HC2.out
            clear hP
            clear hin hout
            intro K Q hK
            go_simp
            exact hK _ _ ⟨Same.refl _, rfl⟩
          refine allp_mild 0 rfl rfl rfl (fun a x_ W hout hin hP => ?_) ?_
          · have e20 := hin.is 3 20 (by kernel_rfl) (by decide) (by kernel_rfl) (by kernel_rfl) _ rfl
            have e24 := hin.is 7 24 (by kernel_rfl) (by decide) (by kernel_rfl) (by kernel_rfl) _ rfl
            have hq := HQ.out
            clear hP
            clear hin hout
            intro K Q hK
            go_simp
            exact hK _ _ ⟨Same.refl _, rfl⟩
          exact all_end (by decide)
        · intro x_ W hP hV
          have hB9 := hP
          have h8 : x_ 8 = .bool false := hV 8 (by decide) (.inl (by kernel_rfl))
          clear hP hV
          simp only [putL, Act.put, List.setIfInBounds_toArray, List.set_cons_succ, List.set_cons_zero, h8]
          refine wpAnyH_done (by kernel_rfl) ?_ _
          clear h8
          go_wp2_with fail
          refine ⟨⟨k + 1, by omega, by go_num, Lib.hid fun i hi => ?_, hB9⟩, by simp [intOf] <;> omega⟩
          rcases Nat.lt_or_eq_of_le (Nat.le_of_lt_succ hi) with h | rfl
          · exact HE.out i h
          · rw [HX1.out, HX2.out, HXY.out]
      · have HQ : Hid ((x != y) = true) := Lib.hid (bne_iff_ne.2 hxy)
        have HXY := Lib.hid hxy
        clear hxy
        refine wp_region_phs [is (.slice (some ⟨b1, o1, none⟩) n c1), is (.int .i64 (k : Int)), is (.pointer (some ⟨b1, O1, none⟩)), is (.int .i64 x), is (.slice (some ⟨b2, o2, none⟩) n c2), is (.int .i64 (k : Int)), is (.pointer (some ⟨b2, O2, none⟩)), is (.int .i64 y), is (.bool true)] [true, true, true, true, true, true, true, true, true] [(fun W => Below w.heap.size w W)] [false, false, false, false, false, false, false, false, false] [some 0, some 0, some 0, some 0, some 0, some 0, some 0, some 0, some 0] [some 17, some 18, some 19, some 20, some 21, some 22, some 23, some 24, some 25] 9 0 (fun _ => true) rfl rfl (by kernel_rfl) (by kernel_rfl) (by kernel_rfl) (by kernel_rfl) ?_ ?_ ?_ ?_ ?_ ?_
        · repeat first | exact wok_nil | refine wok_cons (by first | exact fun _ _ h k => h.trans (k.mono h.size)) ?_
        · repeat first | exact vok_nil | refine vok_rig (by first | exact fun _ _ _ h => h) ?_ | refine vok_soft (by first | exact fun _ _ _ h _ => h) ?_
        · exact hF0
        · repeat first | exact all_end (by decide) | refine all_cons (by first | exact rfl | exact ⟨rfl, fun _ _ h => Or.inl h⟩ | exact ⟨rfl, fun _ _ h => Or.inr ⟨h, rfl⟩⟩) ?_
        · refine allp_mild 0 rfl rfl rfl (fun a x_ W hout hin hP => ?_) ?_
          · have e0 : a.tmps[0]? = some (.slice (some ⟨b1, o1, none⟩) n c1) := (hout 0 (by kernel_rfl)).trans rfl
            exact does_move rfl e0 ⟨Same.refl _, rfl⟩
          refine allp_mild 0 rfl rfl rfl (fun a x_ W hout hin hP => ?_) ?_
          · have e5 : a.tmps[5]? = some (.int .i64 (k : Int)) := (hout 5 (by kernel_rfl)).trans rfl
            exact does_move rfl e5 ⟨Same.refl _, rfl⟩
          refine allp_mild 0 rfl rfl rfl (fun a x_ W hout hin hP => ?_) ?_
          · have e17 := hin.is 0 17 (by kernel_rfl) (by decide) (by kernel_rfl) (by kernel_rfl) _ rfl
            have e18 := hin.is 1 18 (by kernel_rfl) (by decide) (by kernel_rfl) (by kernel_rfl) _ rfl
            have hO := HO1.out
            clear hin hout
            intro K Q hK
            go_simp
            exact hK _ _ ⟨Same.refl _, rfl⟩
          refine allp_mild 0 rfl rfl rfl (fun a x_ W hout hin hP => ?_) ?_
          · have e19 := hin.is 2 19 (by kernel_rfl) (by decide) (by kernel_rfl) (by kernel_rfl) _ rfl
            have hc : W.cell? ⟨b1, O1, none⟩ = some (.int .i64 x) := (hP.cell (p := ⟨b1, O1, none⟩) HW1.out).trans HC1.out
            clear hP
            clear hin hout
            intro K Q hK
            go_simp
            exact hK _ _ ⟨Same.refl _, rfl⟩
          refine allp_mild 0 rfl rfl rfl (fun a x_ W hout hin hP => ?_) ?_
          · have e1 : a.tmps[1]? = some (.slice (some ⟨b2, o2, none⟩) n c2) := (hout 1 (by kernel_rfl)).trans rfl
            exact does_move rfl e1 ⟨Same.refl _, rfl⟩
          refine allp_mild 0 rfl rfl rfl (fun a x_ W hout hin hP => ?_) ?_
          · have e5 : a.tmps[5]? = some (.int .i64 (k : Int)) := (hout 5 (by kernel_rfl)).trans rfl
            exact does_move rfl e5 ⟨Same.refl _, rfl⟩
          refine allp_mild 0 rfl rfl rfl (fun a x_ W hout hin hP => ?_) ?_
          · have e21 := hin.is 4 21 (by kernel_rfl) (by decide) (by kernel_rfl) (by kernel_rfl) _ rfl
            have e22 := hin.is 5 22 (by kernel_rfl) (by decide) (by kernel_rfl) (by kernel_rfl) _ rfl
            have hO := HO2.out
            clear hin hout
            intro K Q hK
            go_simp
            exact hK _ _ ⟨Same.refl _, rfl⟩
          refine allp_mild 0 rfl rfl rfl (fun a x_ W hout hin hP => ?_) ?_
          · have e23 := hin.is 6 23 (by kernel_rfl) (by decide) (by kernel_rfl) (by kernel_rfl) _ rfl
            have hc : W.cell? ⟨b2, O2, none⟩ = some (.int .i64 y) := (hP.cell (p := ⟨b2, O2, none⟩) HW2.out).trans HC2.out
            clear hP
            clear hin hout
            intro K Q hK
            go_simp
            exact hK _ _ ⟨Same.refl _, rfl⟩
          refine allp_mild 0 rfl rfl rfl (fun a x_ W hout hin hP => ?_) ?_
          · have e20 := hin.is 3 20 (by kernel_rfl) (by decide) (by kernel_rfl) (by kernel_rfl) _ rfl
            have e24 := hin.is 7 24 (by kernel_rfl) (by decide) (by kernel_rfl) (by kernel_rfl) _ rfl
            have hq := HQ.out
            clear hP
            clear hin hout
            intro K Q hK
            go_simp
            exact hK _ _ ⟨Same.refl _, rfl⟩
          exact all_end (by decide)
        · intro x_ W hP hV
          have hB9 := hP
          have h8 : x_ 8 = .bool true := hV 8 (by decide) (.inl (by kernel_rfl))
          clear hP hV
          simp only [putL, Act.put, List.setIfInBounds_toArray, List.set_cons_succ, List.set_cons_zero, h8]
          refine wpAnyH_done (by kernel_rfl) ?_ _
          clear h8
          have hG := HNO.out k (by rw [HX1.out, HX2.out]; exact fun h => HXY.out (Option.some.inj h))
          go_wp2_with fail
          go_ret
          exact ⟨by first | rfl | (rw [hG]; rfl), hB9⟩
    · obtain rfl : k = n := by omega
      have hG := HALL.out HE.out
      go_wp2_with fail
      go_ret
      exact ⟨by first | rfl | (rw [hG]; rfl), HB.out⟩
end Go.Proofs.YtpmedgibnnonkaaDoor

/- Are two lists of volumes alike? -/
set_option maxRecDepth 4000
namespace Go.Proofs.YtpmedgibnnonkaaDoor
open Go Go.RowKit
theorem str_ext {s t : ByteArray} (h : s.toList = t.toList) : s = t := by
  rw [ByteArray.toList_eq, ByteArray.toList_eq] at h
  exact ByteArray.ext (Array.toList_inj.1 h)
set_option maxRecDepth 20000 in
set_option maxHeartbeats 1600000 in
theorem keepvols_any (la lb : List Vl) (A1 A2 : Option Addr) (n1 n2 c1 c2 : Nat) (w : World) (hu : VolsAt w (.slice A1 n1 c1) la) (hv : VolsAt w (.slice A2 n2 c2) lb) (hl : n1 ≤ 1000000) (hl2 : n2 ≤ 1000000) (hm : ∀ x ∈ la, x.2.length ≤ 1000000) :
    Calls Tryd.prog 16 #[.slice A1 n1 c1, .slice A2 n2 c2] w fun e w' => e = .returned (.bool (decide (la = lb))) ∧ Below w.heap.size w w' := by
  have hln1 := vols_len hu
  have hln2 := vols_len hv
  obtain ⟨G, hG⟩ : ∃ G, decide (la = lb) = G := ⟨_, rfl⟩
  by_cases hlen : n1 = n2
  case neg =>
    have hG0 : G = false := by rw [← hG, decide_eq_false (fun h => hlen (by rw [← hln1, ← hln2, h]))]
    rw [hG, hG0]
    have hq : (n1 : Int) ≠ (n2 : Int) := by omega
    clear hu hv hG hlen hln1 hln2 hG0
    go_enter Tryd.func16, Tryd.ntmps16
    go_wp2_with fail
    go_ret
    exact ⟨rfl, Below.refl _ _⟩
  subst hlen
  obtain ⟨n, hn⟩ : ∃ n, n1 = n := ⟨_, rfl⟩
  subst hn
  have HF := Lib.hid (fun k (hk : k < la.length) => vols_get hu hk)
  have HF2 := Lib.hid (fun k (hk : k < lb.length) => vols_get hv hk)
  have HALL : Hid ((∀ i < n1, la[i]? = lb[i]?) → G = true) := Lib.hid fun h => by
    rw [← hG]
    refine decide_eq_true (List.ext_getElem? fun i => ?_)
    by_cases hi : i < n1
    · exact h i hi
    · rw [List.getElem?_eq_none (by omega), List.getElem?_eq_none (by omega)]
  have HNO : Hid (∀ k : Nat, la[k]? ≠ lb[k]? → G = false) := Lib.hid fun k h => by
    rw [← hG]; exact decide_eq_false (fun e => h (by rw [e]))
  have HL1 := Lib.hid hln1
  have HL2 := Lib.hid hln2
  have HMM := Lib.hid hm
  obtain ⟨n, hn⟩ : ∃ n, n1 = n := ⟨_, rfl⟩
  rw [hG]
  rw [hn] at HALL HL1 HL2 hl ⊢
  clear hu hv hG hl2 hln1 hln2 hn hm
  go_enter Tryd.func16, Tryd.ntmps16
  go_wp2_with fail
  go_loopw [5] (fun i wr => ∃ k : Nat, k ≤ n ∧ i = .int .i64 k ∧ Hid (∀ j < k, la[j]? = lb[j]?) ∧ Below w.heap.size w wr) (fun i _ => n - (intOf i).toNat)
  case atStart => exact ⟨0, by omega, rfl, Lib.hid fun j hj => by omega, Below.refl _ _⟩
  case round =>
    obtain ⟨k, hk, rfl, HE, hB⟩ := hrel
    have HB := Lib.hid hB
    clear hB
    by_cases hlt : k < n
    · obtain ⟨b1, o1, s1, d1, B1, m1, q1, hx1, rfl, hb1, hr1, hs1, hm1, _⟩ := HF.out k (by rw [HL1.out]; exact hlt)
      obtain ⟨b2, o2, s2, d2, B2, m2, q2, hx2, rfl, hb2, hr2, hs2, hm2, _⟩ := HF2.out k (by rw [HL2.out]; exact hlt)
      obtain ⟨O1, hO1⟩ : ∃ O, o1 + k * 2 = O := ⟨_, rfl⟩
      obtain ⟨O2, hO2⟩ : ∃ O, o2 + k * 2 = O := ⟨_, rfl⟩
      rw [hO1] at hr1
      rw [hO2] at hr2
      have HM1 : Hid (m1 ≤ 1000000) := Lib.hid (by rw [← hm1]; exact HMM.out _ (List.mem_of_getElem? hx1))
      have HX1 := Lib.hid hx1
      have HX2 := Lib.hid hx2
      have HC10 : Hid (w.cell? ⟨b1, O1, none⟩ = some (.string s1)) := Lib.hid (hr1 0 _ rfl)
      have HC11 : Hid (w.cell? ⟨b1, O1 + 1, none⟩ = some (.slice B1 m1 q1)) := Lib.hid (hr1 1 _ rfl)
      have HC20 : Hid (w.cell? ⟨b2, O2, none⟩ = some (.string s2)) := Lib.hid (hr2 0 _ rfl)
      have HC21 : Hid (w.cell? ⟨b2, O2 + 1, none⟩ = some (.slice B2 m2 q2)) := Lib.hid (hr2 1 _ rfl)
      have HW1 := Lib.hid hb1
      have HW2 := Lib.hid hb2
      have HS1 := Lib.hid hs1
      have HS2 := Lib.hid hs2
      have HO1 := Lib.hid hO1
      have HO2 := Lib.hid hO2
      have hk0 : (0 : Int) ≤ (k : Int) := by omega
      have hk1 : (k : Int) < (n : Int) := by omega
      clear hx1 hx2 hr1 hr2 hb1 hb2 hs1 hs2 hm1 hm2 hO1 hO2
      go_upto_region 6 with fail
      have hF0 : Wl [fun W => Below w.heap.size w W] 0 (World.drew _) := HB.out.drew
      by_cases hi : s1 = s2
      · by_cases hd : d1 = d2
        · have HQI : Hid (s1 = s2) := Lib.hid hi
          have HQD : Hid (decide (d1 = d2) = true) := Lib.hid (decide_eq_true hd)
          have HXY : Hid (((s1, d1) : Vl) = (s2, d2)) := Lib.hid (by rw [hi, hd])
          clear hi hd
          refine wp_region_phs [is (.slice (some ⟨b1, o1, none⟩) n c1), is (.int .i64 (k : Int)), is (.pointer (some ⟨b1, O1, none⟩)), is (.pointer (some ⟨b1, O1, none⟩)), is (.string s1), is (.slice (some ⟨b2, o2, none⟩) n c2), is (.int .i64 (k : Int)), is (.pointer (some ⟨b2, O2, none⟩)), is (.pointer (some ⟨b2, O2, none⟩)), is (.string s2), is (.bool false), is (.bool false), is (.slice (some ⟨b1, o1, none⟩) n c1), is (.int .i64 (k : Int)), is (.pointer (some ⟨b1, O1, none⟩)), is (.pointer (some ⟨b1, O1 + 1, none⟩)), is (.slice B1 m1 q1), is (.slice (some ⟨b2, o2, none⟩) n c2), is (.int .i64 (k : Int)), is (.pointer (some ⟨b2, O2, none⟩)), is (.pointer (some ⟨b2, O2 + 1, none⟩)), is (.slice B2 m2 q2), is (.bool true), is (.bool false), is (.bool false)] [true, true, true, true, true, true, true, true, true, true, true, true, true, true, true, true, true, true, true, true, true, true, true, true, true] [(fun W => Below w.heap.size w W)] [false, false, false, false, false, false, false, false, false, false, false, false, false, false, false, false, false, false, false, false, false, false, false, false, false] [some 0, some 0, some 0, some 0, some 0, some 0, some 0, some 0, some 0, some 0, some 0, some 0, some 0, some 0, some 0, some 0, some 0, some 0, some 0, some 0, some 0, some 0, some 0, some 0, some 0] [some 17, some 18, some 19, some 20, some 21, some 22, some 23, some 24, some 25, some 26, some 27, some 28, some 29, some 30, some 31, some 32, some 33, some 34, some 35, some 36, some 37, some 38, some 39, some 40, some 41] 25 0 (fun _ => true) rfl rfl (by kernel_rfl) (by kernel_rfl) (by kernel_rfl) (by kernel_rfl) ?_ ?_ ?_ ?_ ?_ ?_
          · repeat first | exact wok_nil | refine wok_cons (by first | exact fun _ _ h k => h.trans (k.mono h.size)) ?_
          · repeat first | exact vok_nil | refine vok_rig (by first | exact fun _ _ _ h => h) ?_ | refine vok_soft (by first | exact fun _ _ _ h _ => h) ?_
          · exact hF0
          · repeat first | exact all_end (by decide) | refine all_cons (by first | exact rfl | exact ⟨rfl, fun _ _ h => Or.inl h⟩ | exact ⟨rfl, fun _ _ h => Or.inr ⟨h, rfl⟩⟩) ?_
          · refine allp_mild 0 rfl rfl rfl (fun a x_ W hout hin hP => ?_) ?_
            · have e0 : a.tmps[0]? = some (.slice (some ⟨b1, o1, none⟩) n c1) := (hout 0 (by kernel_rfl)).trans rfl
              exact does_move rfl e0 ⟨Same.refl _, rfl⟩
            refine allp_mild 0 rfl rfl rfl (fun a x_ W hout hin hP => ?_) ?_
            · have e5 : a.tmps[5]? = some (.int .i64 (k : Int)) := (hout 5 (by kernel_rfl)).trans rfl
              exact does_move rfl e5 ⟨Same.refl _, rfl⟩
            refine allp_mild 0 rfl rfl rfl (fun a x_ W hout hin hP => ?_) ?_
            · have e17 := hin.is 0 17 (by kernel_rfl) (by decide) (by kernel_rfl) (by kernel_rfl) _ rfl
              have e18 := hin.is 1 18 (by kernel_rfl) (by decide) (by kernel_rfl) (by kernel_rfl) _ rfl
              have hO := HO1.out
              clear hin hout
              intro K Q hK
              go_simp
              exact hK _ _ ⟨Same.refl _, rfl⟩
            refine allp_mild 0 rfl rfl rfl (fun a x_ W hout hin hP => ?_) ?_
            · have e19 := hin.is 2 19 (by kernel_rfl) (by decide) (by kernel_rfl) (by kernel_rfl) _ rfl
              clear hin hout
              intro K Q hK
              go_simp
              exact hK _ _ ⟨Same.refl _, rfl⟩
            refine allp_mild 0 rfl rfl rfl (fun a x_ W hout hin hP => ?_) ?_
            · have e20 := hin.is 3 20 (by kernel_rfl) (by decide) (by kernel_rfl) (by kernel_rfl) _ rfl
              have hc : W.cell? ⟨b1, O1, none⟩ = some (.string s1) := (hP.cell (p := ⟨b1, O1, none⟩) HW1.out).trans (HC10.out)
              clear hP
              clear hin hout
              intro K Q hK
              go_simp
              exact hK _ _ ⟨Same.refl _, rfl⟩
            refine allp_mild 0 rfl rfl rfl (fun a x_ W hout hin hP => ?_) ?_
            · have e1 : a.tmps[1]? = some (.slice (some ⟨b2, o2, none⟩) n c2) := (hout 1 (by kernel_rfl)).trans rfl
              exact does_move rfl e1 ⟨Same.refl _, rfl⟩
            refine allp_mild 0 rfl rfl rfl (fun a x_ W hout hin hP => ?_) ?_
            · have e5 : a.tmps[5]? = some (.int .i64 (k : Int)) := (hout 5 (by kernel_rfl)).trans rfl
              exact does_move rfl e5 ⟨Same.refl _, rfl⟩
            refine allp_mild 0 rfl rfl rfl (fun a x_ W hout hin hP => ?_) ?_
            · have e22 := hin.is 5 22 (by kernel_rfl) (by decide) (by kernel_rfl) (by kernel_rfl) _ rfl
              have e23 := hin.is 6 23 (by kernel_rfl) (by decide) (by kernel_rfl) (by kernel_rfl) _ rfl
              have hO := HO2.out
              clear hin hout
              intro K Q hK
              go_simp
              exact hK _ _ ⟨Same.refl _, rfl⟩
            refine allp_mild 0 rfl rfl rfl (fun a x_ W hout hin hP => ?_) ?_
            · have e24 := hin.is 7 24 (by kernel_rfl) (by decide) (by kernel_rfl) (by kernel_rfl) _ rfl
              clear hin hout
              intro K Q hK
              go_simp
              exact hK _ _ ⟨Same.refl _, rfl⟩
            refine allp_mild 0 rfl rfl rfl (fun a x_ W hout hin hP => ?_) ?_
            · have e25 := hin.is 8 25 (by kernel_rfl) (by decide) (by kernel_rfl) (by kernel_rfl) _ rfl
              have hc : W.cell? ⟨b2, O2, none⟩ = some (.string s2) := (hP.cell (p := ⟨b2, O2, none⟩) HW2.out).trans (HC20.out)
              clear hP
              clear hin hout
              intro K Q hK
              go_simp
              exact hK _ _ ⟨Same.refl _, rfl⟩
            refine allp_mild 0 rfl rfl rfl (fun a x_ W hout hin hP => ?_) ?_
            · have e21 := hin.is 4 21 (by kernel_rfl) (by decide) (by kernel_rfl) (by kernel_rfl) _ rfl
              have e26 := hin.is 9 26 (by kernel_rfl) (by decide) (by kernel_rfl) (by kernel_rfl) _ rfl
              have hq := HQI.out
              clear hP
              clear hin hout
              intro K Q hK
              go_simp
              exact hK _ _ ⟨Same.refl _, rfl⟩
            refine allp_mild 0 rfl rfl rfl (fun a x_ W hout hin hP => ?_) ?_
            · have e27 := hin.is 10 27 (by kernel_rfl) (by decide) (by kernel_rfl) (by kernel_rfl) _ rfl
              exact does_move rfl e27 ⟨Same.refl _, rfl⟩
            refine allp_mild 0 rfl rfl rfl (fun a x_ W hout hin hP => ?_) ?_
            · have e0 : a.tmps[0]? = some (.slice (some ⟨b1, o1, none⟩) n c1) := (hout 0 (by kernel_rfl)).trans rfl
              exact does_move rfl e0 ⟨Same.refl _, rfl⟩
            refine allp_mild 0 rfl rfl rfl (fun a x_ W hout hin hP => ?_) ?_
            · have e5 : a.tmps[5]? = some (.int .i64 (k : Int)) := (hout 5 (by kernel_rfl)).trans rfl
              exact does_move rfl e5 ⟨Same.refl _, rfl⟩
            refine allp_mild 0 rfl rfl rfl (fun a x_ W hout hin hP => ?_) ?_
            · have e29 := hin.is 12 29 (by kernel_rfl) (by decide) (by kernel_rfl) (by kernel_rfl) _ rfl
              have e30 := hin.is 13 30 (by kernel_rfl) (by decide) (by kernel_rfl) (by kernel_rfl) _ rfl
              have hO := HO1.out
              clear hin hout
              intro K Q hK
              go_simp
              exact hK _ _ ⟨Same.refl _, rfl⟩
            refine allp_mild 0 rfl rfl rfl (fun a x_ W hout hin hP => ?_) ?_
            · have e31 := hin.is 14 31 (by kernel_rfl) (by decide) (by kernel_rfl) (by kernel_rfl) _ rfl
              clear hin hout
              intro K Q hK
              go_simp
              exact hK _ _ ⟨Same.refl _, rfl⟩
            refine allp_mild 0 rfl rfl rfl (fun a x_ W hout hin hP => ?_) ?_
            · have e32 := hin.is 15 32 (by kernel_rfl) (by decide) (by kernel_rfl) (by kernel_rfl) _ rfl
              have hc : W.cell? ⟨b1, O1 + 1, none⟩ = some (.slice B1 m1 q1) := (hP.cell (p := ⟨b1, O1 + 1, none⟩) HW1.out).trans (HC11.out)
              clear hP
              clear hin hout
              intro K Q hK
              go_simp
              exact hK _ _ ⟨Same.refl _, rfl⟩
            refine allp_mild 0 rfl rfl rfl (fun a x_ W hout hin hP => ?_) ?_
            · have e1 : a.tmps[1]? = some (.slice (some ⟨b2, o2, none⟩) n c2) := (hout 1 (by kernel_rfl)).trans rfl
              exact does_move rfl e1 ⟨Same.refl _, rfl⟩
            refine allp_mild 0 rfl rfl rfl (fun a x_ W hout hin hP => ?_) ?_
            · have e5 : a.tmps[5]? = some (.int .i64 (k : Int)) := (hout 5 (by kernel_rfl)).trans rfl
              exact does_move rfl e5 ⟨Same.refl _, rfl⟩
            refine allp_mild 0 rfl rfl rfl (fun a x_ W hout hin hP => ?_) ?_
            · have e34 := hin.is 17 34 (by kernel_rfl) (by decide) (by kernel_rfl) (by kernel_rfl) _ rfl
              have e35 := hin.is 18 35 (by kernel_rfl) (by decide) (by kernel_rfl) (by kernel_rfl) _ rfl
              have hO := HO2.out
              clear hin hout
              intro K Q hK
              go_simp
              exact hK _ _ ⟨Same.refl _, rfl⟩
            refine allp_mild 0 rfl rfl rfl (fun a x_ W hout hin hP => ?_) ?_
            · have e36 := hin.is 19 36 (by kernel_rfl) (by decide) (by kernel_rfl) (by kernel_rfl) _ rfl
              clear hin hout
              intro K Q hK
              go_simp
              exact hK _ _ ⟨Same.refl _, rfl⟩
            refine allp_mild 0 rfl rfl rfl (fun a x_ W hout hin hP => ?_) ?_
            · have e37 := hin.is 20 37 (by kernel_rfl) (by decide) (by kernel_rfl) (by kernel_rfl) _ rfl
              have hc : W.cell? ⟨b2, O2 + 1, none⟩ = some (.slice B2 m2 q2) := (hP.cell (p := ⟨b2, O2 + 1, none⟩) HW2.out).trans (HC21.out)
              clear hP
              clear hin hout
              intro K Q hK
              go_simp
              exact hK _ _ ⟨Same.refl _, rfl⟩
            refine allp_mild 0 rfl rfl rfl (fun a x_ W hout hin hP => ?_) ?_
            · have e33 := hin.is 16 33 (by kernel_rfl) (by decide) (by kernel_rfl) (by kernel_rfl) _ rfl
              have e38 := hin.is 21 38 (by kernel_rfl) (by decide) (by kernel_rfl) (by kernel_rfl) _ rfl
              have C := keepints_any _ _ _ _ _ _ _ _ W (HS1.out.below hP (Nat.le_refl _)) (HS2.out.below hP (Nat.le_refl _)) HM1.out
              rw [HQD.out] at C
              clear hP
              clear hin hout
              intro K Q hK
              go_simp
              refine C.mono ?_
              rintro e W' ⟨rfl, hb⟩
              exact hK _ _ ⟨hb, rfl⟩
            refine allp_mild 0 rfl rfl rfl (fun a x_ W hout hin hP => ?_) ?_
            · have e39 := hin.is 22 39 (by kernel_rfl) (by decide) (by kernel_rfl) (by kernel_rfl) _ rfl
              exact does_not rfl e39 ⟨Same.refl _, rfl⟩
            refine allp_mild 0 rfl rfl rfl (fun a x_ W hout hin hP => ?_) ?_
            · have e28 := hin.is 11 28 (by kernel_rfl) (by decide) (by kernel_rfl) (by kernel_rfl) _ rfl
              have e40 := hin.is 23 40 (by kernel_rfl) (by decide) (by kernel_rfl) (by kernel_rfl) _ rfl
              exact does_pick rfl e28 ⟨Same.refl _, eval_of_get e40⟩
            exact all_end (by decide)
          · intro x_ W hP hV
            have hB9 := hP
            have h24 : x_ 24 = .bool false := hV 24 (by decide) (.inl (by kernel_rfl))
            clear hP hV
            simp only [putL, Act.put, List.setIfInBounds_toArray, List.set_cons_succ, List.set_cons_zero, h24]
            refine wpAnyH_done (by kernel_rfl) ?_ _
            clear h24
            go_wp2_with fail
            refine ⟨⟨k + 1, by omega, by go_num, Lib.hid fun i hi => ?_, hB9⟩, by simp [intOf] <;> omega⟩
            rcases Nat.lt_or_eq_of_le (Nat.le_of_lt_succ hi) with h | rfl
            · exact HE.out i h
            · rw [HX1.out, HX2.out, HXY.out]

        · have HQI : Hid (s1 = s2) := Lib.hid hi
          have HQD : Hid (decide (d1 = d2) = false) := Lib.hid (decide_eq_false hd)
          have HXY : Hid (¬ ((s1, d1) : Vl) = (s2, d2)) := Lib.hid (fun h => hd (by injection h))
          clear hi hd
          refine wp_region_phs [is (.slice (some ⟨b1, o1, none⟩) n c1), is (.int .i64 (k : Int)), is (.pointer (some ⟨b1, O1, none⟩)), is (.pointer (some ⟨b1, O1, none⟩)), is (.string s1), is (.slice (some ⟨b2, o2, none⟩) n c2), is (.int .i64 (k : Int)), is (.pointer (some ⟨b2, O2, none⟩)), is (.pointer (some ⟨b2, O2, none⟩)), is (.string s2), is (.bool false), is (.bool false), is (.slice (some ⟨b1, o1, none⟩) n c1), is (.int .i64 (k : Int)), is (.pointer (some ⟨b1, O1, none⟩)), is (.pointer (some ⟨b1, O1 + 1, none⟩)), is (.slice B1 m1 q1), is (.slice (some ⟨b2, o2, none⟩) n c2), is (.int .i64 (k : Int)), is (.pointer (some ⟨b2, O2, none⟩)), is (.pointer (some ⟨b2, O2 + 1, none⟩)), is (.slice B2 m2 q2), is (.bool false), is (.bool true), is (.bool true)] [true, true, true, true, true, true, true, true, true, true, true, true, true, true, true, true, true, true, true, true, true, true, true, true, true] [(fun W => Below w.heap.size w W)] [false, false, false, false, false, false, false, false, false, false, false, false, false, false, false, false, false, false, false, false, false, false, false, false, false] [some 0, some 0, some 0, some 0, some 0, some 0, some 0, some 0, some 0, some 0, some 0, some 0, some 0, some 0, some 0, some 0, some 0, some 0, some 0, some 0, some 0, some 0, some 0, some 0, some 0] [some 17, some 18, some 19, some 20, some 21, some 22, some 23, some 24, some 25, some 26, some 27, some 28, some 29, some 30, some 31, some 32, some 33, some 34, some 35, some 36, some 37, some 38, some 39, some 40, some 41] 25 0 (fun _ => true) rfl rfl (by kernel_rfl) (by kernel_rfl) (by kernel_rfl) (by kernel_rfl) ?_ ?_ ?_ ?_ ?_ ?_
          · repeat first | exact wok_nil | refine wok_cons (by first | exact fun _ _ h k => h.trans (k.mono h.size)) ?_
          · repeat first | exact vok_nil | refine vok_rig (by first | exact fun _ _ _ h => h) ?_ | refine vok_soft (by first | exact fun _ _ _ h _ => h) ?_
          · exact hF0
          · repeat first | exact all_end (by decide) | refine all_cons (by first | exact rfl | exact ⟨rfl, fun _ _ h => Or.inl h⟩ | exact ⟨rfl, fun _ _ h => Or.inr ⟨h, rfl⟩⟩) ?_
          · refine allp_mild 0 rfl rfl rfl (fun a x_ W hout hin hP => ?_) ?_
            · have e0 : a.tmps[0]? = some (.slice (some ⟨b1, o1, none⟩) n c1) := (hout 0 (by kernel_rfl)).trans rfl
              exact does_move rfl e0 ⟨Same.refl _, rfl⟩
            refine allp_mild 0 rfl rfl rfl (fun a x_ W hout hin hP => ?_) ?_
            · have e5 : a.tmps[5]? = some (.int .i64 (k : Int)) := (hout 5 (by kernel_rfl)).trans rfl
              exact does_move rfl e5 ⟨Same.refl _, rfl⟩
            refine allp_mild 0 rfl rfl rfl (fun a x_ W hout hin hP => ?_) ?_
            · have e17 := hin.is 0 17 (by kernel_rfl) (by decide) (by kernel_rfl) (by kernel_rfl) _ rfl
              have e18 := hin.is 1 18 (by kernel_rfl) (by decide) (by kernel_rfl) (by kernel_rfl) _ rfl
              have hO := HO1.out
              clear hin hout
              intro K Q hK
              go_simp
              exact hK _ _ ⟨Same.refl _, rfl⟩
            refine allp_mild 0 rfl rfl rfl (fun a x_ W hout hin hP => ?_) ?_
            · have e19 := hin.is 2 19 (by kernel_rfl) (by decide) (by kernel_rfl) (by kernel_rfl) _ rfl
              clear hin hout
              intro K Q hK
              go_simp
              exact hK _ _ ⟨Same.refl _, rfl⟩
            refine allp_mild 0 rfl rfl rfl (fun a x_ W hout hin hP => ?_) ?_
            · have e20 := hin.is 3 20 (by kernel_rfl) (by decide) (by kernel_rfl) (by kernel_rfl) _ rfl
              have hc : W.cell? ⟨b1, O1, none⟩ = some (.string s1) := (hP.cell (p := ⟨b1, O1, none⟩) HW1.out).trans (HC10.out)
              clear hP
              clear hin hout
              intro K Q hK
              go_simp
              exact hK _ _ ⟨Same.refl _, rfl⟩
            refine allp_mild 0 rfl rfl rfl (fun a x_ W hout hin hP => ?_) ?_
            · have e1 : a.tmps[1]? = some (.slice (some ⟨b2, o2, none⟩) n c2) := (hout 1 (by kernel_rfl)).trans rfl
              exact does_move rfl e1 ⟨Same.refl _, rfl⟩
            refine allp_mild 0 rfl rfl rfl (fun a x_ W hout hin hP => ?_) ?_
            · have e5 : a.tmps[5]? = some (.int .i64 (k : Int)) := (hout 5 (by kernel_rfl)).trans rfl
              exact does_move rfl e5 ⟨Same.refl _, rfl⟩
            refine allp_mild 0 rfl rfl rfl (fun a x_ W hout hin hP => ?_) ?_
            · have e22 := hin.is 5 22 (by kernel_rfl) (by decide) (by kernel_rfl) (by kernel_rfl) _ rfl
              have e23 := hin.is 6 23 (by kernel_rfl) (by decide) (by kernel_rfl) (by kernel_rfl) _ rfl
              have hO := HO2.out
              clear hin hout
              intro K Q hK
              go_simp
              exact hK _ _ ⟨Same.refl _, rfl⟩
            refine allp_mild 0 rfl rfl rfl (fun a x_ W hout hin hP => ?_) ?_
            · have e24 := hin.is 7 24 (by kernel_rfl) (by decide) (by kernel_rfl) (by kernel_rfl) _ rfl
              clear hin hout
              intro K Q hK
              go_simp
              exact hK _ _ ⟨Same.refl _, rfl⟩
            refine allp_mild 0 rfl rfl rfl (fun a x_ W hout hin hP => ?_) ?_
            · have e25 := hin.is 8 25 (by kernel_rfl) (by decide) (by kernel_rfl) (by kernel_rfl) _ rfl
              have hc : W.cell? ⟨b2, O2, none⟩ = some (.string s2) := (hP.cell (p := ⟨b2, O2, none⟩) HW2.out).trans (HC20.out)
              clear hP
              clear hin hout
              intro K Q hK
              go_simp
              exact hK _ _ ⟨Same.refl _, rfl⟩
            refine allp_mild 0 rfl rfl rfl (fun a x_ W hout hin hP => ?_) ?_
            · have e21 := hin.is 4 21 (by kernel_rfl) (by decide) (by kernel_rfl) (by kernel_rfl) _ rfl
              have e26 := hin.is 9 26 (by kernel_rfl) (by decide) (by kernel_rfl) (by kernel_rfl) _ rfl
              have hq := HQI.out
              clear hP
              clear hin hout
              intro K Q hK
              go_simp
              exact hK _ _ ⟨Same.refl _, rfl⟩
            refine allp_mild 0 rfl rfl rfl (fun a x_ W hout hin hP => ?_) ?_
            · have e27 := hin.is 10 27 (by kernel_rfl) (by decide) (by kernel_rfl) (by kernel_rfl) _ rfl
              exact does_move rfl e27 ⟨Same.refl _, rfl⟩
            refine allp_mild 0 rfl rfl rfl (fun a x_ W hout hin hP => ?_) ?_
            · have e0 : a.tmps[0]? = some (.slice (some ⟨b1, o1, none⟩) n c1) := (hout 0 (by kernel_rfl)).trans rfl
              exact does_move rfl e0 ⟨Same.refl _, rfl⟩
            refine allp_mild 0 rfl rfl rfl (fun a x_ W hout hin hP => ?_) ?_
            · have e5 : a.tmps[5]? = some (.int .i64 (k : Int)) := (hout 5 (by kernel_rfl)).trans rfl
              exact does_move rfl e5 ⟨Same.refl _, rfl⟩
            refine allp_mild 0 rfl rfl rfl (fun a x_ W hout hin hP => ?_) ?_
            · have e29 := hin.is 12 29 (by kernel_rfl) (by decide) (by kernel_rfl) (by kernel_rfl) _ rfl
              have e30 := hin.is 13 30 (by kernel_rfl) (by decide) (by kernel_rfl) (by kernel_rfl) _ rfl
              have hO := HO1.out
              clear hin hout
              intro K Q hK
              go_simp
              exact hK _ _ ⟨Same.refl _, rfl⟩
            refine allp_mild 0 rfl rfl rfl (fun a x_ W hout hin hP => ?_) ?_
            · have e31 := hin.is 14 31 (by kernel_rfl) (by decide) (by kernel_rfl) (by kernel_rfl) _ rfl
              clear hin hout
              intro K Q hK
              go_simp
              exact hK _ _ ⟨Same.refl _, rfl⟩
            refine allp_mild 0 rfl rfl rfl (fun a x_ W hout hin hP => ?_) ?_
            · have e32 := hin.is 15 32 (by kernel_rfl) (by decide) (by kernel_rfl) (by kernel_rfl) _ rfl
              have hc : W.cell? ⟨b1, O1 + 1, none⟩ = some (.slice B1 m1 q1) := (hP.cell (p := ⟨b1, O1 + 1, none⟩) HW1.out).trans (HC11.out)
              clear hP
              clear hin hout
              intro K Q hK
              go_simp
              exact hK _ _ ⟨Same.refl _, rfl⟩
            refine allp_mild 0 rfl rfl rfl (fun a x_ W hout hin hP => ?_) ?_
            · have e1 : a.tmps[1]? = some (.slice (some ⟨b2, o2, none⟩) n c2) := (hout 1 (by kernel_rfl)).trans rfl
              exact does_move rfl e1 ⟨Same.refl _, rfl⟩
            refine allp_mild 0 rfl rfl rfl (fun a x_ W hout hin hP => ?_) ?_
            · have e5 : a.tmps[5]? = some (.int .i64 (k : Int)) := (hout 5 (by kernel_rfl)).trans rfl
              exact does_move rfl e5 ⟨Same.refl _, rfl⟩
            refine allp_mild 0 rfl rfl rfl (fun a x_ W hout hin hP => ?_) ?_
            · have e34 := hin.is 17 34 (by kernel_rfl) (by decide) (by kernel_rfl) (by kernel_rfl) _ rfl
              have e35 := hin.is 18 35 (by kernel_rfl) (by decide) (by kernel_rfl) (by kernel_rfl) _ rfl
              have hO := HO2.out
              clear hin hout
              intro K Q hK
              go_simp
              exact hK _ _ ⟨Same.refl _, rfl⟩
            refine allp_mild 0 rfl rfl rfl (fun a x_ W hout hin hP => ?_) ?_
            · have e36 := hin.is 19 36 (by kernel_rfl) (by decide) (by kernel_rfl) (by kernel_rfl) _ rfl
              clear hin hout
              intro K Q hK
              go_simp
              exact hK _ _ ⟨Same.refl _, rfl⟩
            refine allp_mild 0 rfl rfl rfl (fun a x_ W hout hin hP => ?_) ?_
            · have e37 := hin.is 20 37 (by kernel_rfl) (by decide) (by kernel_rfl) (by kernel_rfl) _ rfl
              have hc : W.cell? ⟨b2, O2 + 1, none⟩ = some (.slice B2 m2 q2) := (hP.cell (p := ⟨b2, O2 + 1, none⟩) HW2.out).trans (HC21.out)
              clear hP
              clear hin hout
              intro K Q hK
              go_simp
              exact hK _ _ ⟨Same.refl _, rfl⟩
            refine allp_mild 0 rfl rfl rfl (fun a x_ W hout hin hP => ?_) ?_
            · have e33 := hin.is 16 33 (by kernel_rfl) (by decide) (by kernel_rfl) (by kernel_rfl) _ rfl
              have e38 := hin.is 21 38 (by kernel_rfl) (by decide) (by kernel_rfl) (by kernel_rfl) _ rfl
              have C := keepints_any _ _ _ _ _ _ _ _ W (HS1.out.below hP (Nat.le_refl _)) (HS2.out.below hP (Nat.le_refl _)) HM1.out
              rw [HQD.out] at C
              clear hP
              clear hin hout
              intro K Q hK
              go_simp
              refine C.mono ?_
              rintro e W' ⟨rfl, hb⟩
              exact hK _ _ ⟨hb, rfl⟩
            refine allp_mild 0 rfl rfl rfl (fun a x_ W hout hin hP => ?_) ?_
            · have e39 := hin.is 22 39 (by kernel_rfl) (by decide) (by kernel_rfl) (by kernel_rfl) _ rfl
              exact does_not rfl e39 ⟨Same.refl _, rfl⟩
            refine allp_mild 0 rfl rfl rfl (fun a x_ W hout hin hP => ?_) ?_
            · have e28 := hin.is 11 28 (by kernel_rfl) (by decide) (by kernel_rfl) (by kernel_rfl) _ rfl
              have e40 := hin.is 23 40 (by kernel_rfl) (by decide) (by kernel_rfl) (by kernel_rfl) _ rfl
              exact does_pick rfl e28 ⟨Same.refl _, eval_of_get e40⟩
            exact all_end (by decide)
          · intro x_ W hP hV
            have hB9 := hP
            have h24 : x_ 24 = .bool true := hV 24 (by decide) (.inl (by kernel_rfl))
            clear hP hV
            simp only [putL, Act.put, List.setIfInBounds_toArray, List.set_cons_succ, List.set_cons_zero, h24]
            refine wpAnyH_done (by kernel_rfl) ?_ _
            clear h24
            have hG := HNO.out k (by rw [HX1.out, HX2.out]; exact fun h => HXY.out (Option.some.inj h))
            go_wp2_with fail
            go_ret
            exact ⟨by first | rfl | (rw [hG]; rfl), hB9⟩

      · have HQI : Hid ((s1.toList == s2.toList) = false) := Lib.hid (beq_eq_false_iff_ne.2 fun h => hi (str_ext h))
        have HXY : Hid (¬ ((s1, d1) : Vl) = (s2, d2)) := Lib.hid (fun h => hi (by injection h))
        clear hi
        refine wp_region_phs [is (.slice (some ⟨b1, o1, none⟩) n c1), is (.int .i64 (k : Int)), is (.pointer (some ⟨b1, O1, none⟩)), is (.pointer (some ⟨b1, O1, none⟩)), is (.string s1), is (.slice (some ⟨b2, o2, none⟩) n c2), is (.int .i64 (k : Int)), is (.pointer (some ⟨b2, O2, none⟩)), is (.pointer (some ⟨b2, O2, none⟩)), is (.string s2), is (.bool true), is (.bool true), is undef, is undef, is undef, is undef, is undef, is undef, is undef, is undef, is undef, is undef, is undef, is undef, is (.bool true)] [true, true, true, true, true, true, true, true, true, true, true, true, true, true, true, true, true, true, true, true, true, true, true, true, true] [(fun W => Below w.heap.size w W)] [false, false, false, false, false, false, false, false, false, false, false, false, false, false, false, false, false, false, false, false, false, false, false, false, false] [some 0, some 0, some 0, some 0, some 0, some 0, some 0, some 0, some 0, some 0, some 0, some 0, some 0, some 0, some 0, some 0, some 0, some 0, some 0, some 0, some 0, some 0, some 0, some 0, some 0] [some 17, some 18, some 19, some 20, some 21, some 22, some 23, some 24, some 25, some 26, some 27, some 28, some 29, some 30, some 31, some 32, some 33, some 34, some 35, some 36, some 37, some 38, some 39, some 40, some 41] 25 0 (fun i => !([12, 13, 14, 15, 16, 17, 18, 19, 20, 21, 22, 23] : List Nat).contains i) rfl rfl (by kernel_rfl) (by kernel_rfl) (by kernel_rfl) (by kernel_rfl) ?_ ?_ ?_ ?_ ?_ ?_
        · repeat first | exact wok_nil | refine wok_cons (by first | exact fun _ _ h k => h.trans (k.mono h.size)) ?_
        · repeat first | exact vok_nil | refine vok_rig (by first | exact fun _ _ _ h => h) ?_ | refine vok_soft (by first | exact fun _ _ _ h _ => h) ?_
        · exact hF0
        · repeat first | exact all_end (by decide) | refine all_cons (by first | exact rfl | exact ⟨rfl, fun _ _ h => Or.inl h⟩ | exact ⟨rfl, fun _ _ h => Or.inr ⟨h, rfl⟩⟩) ?_
        · refine allp_mild 0 rfl rfl rfl (fun a x_ W hout hin hP => ?_) ?_
          · have e0 : a.tmps[0]? = some (.slice (some ⟨b1, o1, none⟩) n c1) := (hout 0 (by kernel_rfl)).trans rfl
            exact does_move rfl e0 ⟨Same.refl _, rfl⟩
          refine allp_mild 0 rfl rfl rfl (fun a x_ W hout hin hP => ?_) ?_
          · have e5 : a.tmps[5]? = some (.int .i64 (k : Int)) := (hout 5 (by kernel_rfl)).trans rfl
            exact does_move rfl e5 ⟨Same.refl _, rfl⟩
          refine allp_mild 0 rfl rfl rfl (fun a x_ W hout hin hP => ?_) ?_
          · have e17 := hin.is 0 17 (by kernel_rfl) (by decide) (by kernel_rfl) (by kernel_rfl) _ rfl
            have e18 := hin.is 1 18 (by kernel_rfl) (by decide) (by kernel_rfl) (by kernel_rfl) _ rfl
            have hO := HO1.out
            clear hin hout
            intro K Q hK
            go_simp
            exact hK _ _ ⟨Same.refl _, rfl⟩
          refine allp_mild 0 rfl rfl rfl (fun a x_ W hout hin hP => ?_) ?_
          · have e19 := hin.is 2 19 (by kernel_rfl) (by decide) (by kernel_rfl) (by kernel_rfl) _ rfl
            clear hin hout
            intro K Q hK
            go_simp
            exact hK _ _ ⟨Same.refl _, rfl⟩
          refine allp_mild 0 rfl rfl rfl (fun a x_ W hout hin hP => ?_) ?_
          · have e20 := hin.is 3 20 (by kernel_rfl) (by decide) (by kernel_rfl) (by kernel_rfl) _ rfl
            have hc : W.cell? ⟨b1, O1, none⟩ = some (.string s1) := (hP.cell (p := ⟨b1, O1, none⟩) HW1.out).trans (HC10.out)
            clear hP
            clear hin hout
            intro K Q hK
            go_simp
            exact hK _ _ ⟨Same.refl _, rfl⟩
          refine allp_mild 0 rfl rfl rfl (fun a x_ W hout hin hP => ?_) ?_
          · have e1 : a.tmps[1]? = some (.slice (some ⟨b2, o2, none⟩) n c2) := (hout 1 (by kernel_rfl)).trans rfl
            exact does_move rfl e1 ⟨Same.refl _, rfl⟩
          refine allp_mild 0 rfl rfl rfl (fun a x_ W hout hin hP => ?_) ?_
          · have e5 : a.tmps[5]? = some (.int .i64 (k : Int)) := (hout 5 (by kernel_rfl)).trans rfl
            exact does_move rfl e5 ⟨Same.refl _, rfl⟩
          refine allp_mild 0 rfl rfl rfl (fun a x_ W hout hin hP => ?_) ?_
          · have e22 := hin.is 5 22 (by kernel_rfl) (by decide) (by kernel_rfl) (by kernel_rfl) _ rfl
            have e23 := hin.is 6 23 (by kernel_rfl) (by decide) (by kernel_rfl) (by kernel_rfl) _ rfl
            have hO := HO2.out
            clear hin hout
            intro K Q hK
            go_simp
            exact hK _ _ ⟨Same.refl _, rfl⟩
          refine allp_mild 0 rfl rfl rfl (fun a x_ W hout hin hP => ?_) ?_
          · have e24 := hin.is 7 24 (by kernel_rfl) (by decide) (by kernel_rfl) (by kernel_rfl) _ rfl
            clear hin hout
            intro K Q hK
            go_simp
            exact hK _ _ ⟨Same.refl _, rfl⟩
          refine allp_mild 0 rfl rfl rfl (fun a x_ W hout hin hP => ?_) ?_
          · have e25 := hin.is 8 25 (by kernel_rfl) (by decide) (by kernel_rfl) (by kernel_rfl) _ rfl
            have hc : W.cell? ⟨b2, O2, none⟩ = some (.string s2) := (hP.cell (p := ⟨b2, O2, none⟩) HW2.out).trans (HC20.out)
            clear hP
            clear hin hout
            intro K Q hK
            go_simp
            exact hK _ _ ⟨Same.refl _, rfl⟩
          refine allp_mild 0 rfl rfl rfl (fun a x_ W hout hin hP => ?_) ?_
          · have e21 := hin.is 4 21 (by kernel_rfl) (by decide) (by kernel_rfl) (by kernel_rfl) _ rfl
            have e26 := hin.is 9 26 (by kernel_rfl) (by decide) (by kernel_rfl) (by kernel_rfl) _ rfl
            have hq := HQI.out
            clear hP
            clear hin hout
            intro K Q hK
            go_simp
            exact hK _ _ ⟨Same.refl _, rfl⟩
          refine allp_mild 0 rfl rfl rfl (fun a x_ W hout hin hP => ?_) ?_
          · have e27 := hin.is 10 27 (by kernel_rfl) (by decide) (by kernel_rfl) (by kernel_rfl) _ rfl
            exact does_move rfl e27 ⟨Same.refl _, rfl⟩
          refine allp_skip rfl rfl (fun _ => rfl) ?_
          refine allp_skip rfl rfl (fun _ => rfl) ?_
          refine allp_skip rfl rfl (fun _ => rfl) ?_
          refine allp_skip rfl rfl (fun _ => rfl) ?_
          refine allp_skip rfl rfl (fun _ => rfl) ?_
          refine allp_skip rfl rfl (fun _ => rfl) ?_
          refine allp_skip rfl rfl (fun _ => rfl) ?_
          refine allp_skip rfl rfl (fun _ => rfl) ?_
          refine allp_skip rfl rfl (fun _ => rfl) ?_
          refine allp_skip rfl rfl (fun _ => rfl) ?_
          refine allp_skip rfl rfl (fun _ => rfl) ?_
          refine allp_skip rfl rfl (fun _ => rfl) ?_
          refine allp_mild 0 rfl rfl rfl (fun a x_ W hout hin hP => ?_) ?_
          · have e28 := hin.is 11 28 (by kernel_rfl) (by decide) (by kernel_rfl) (by kernel_rfl) _ rfl
            have e40 := hin.is 23 40 (by kernel_rfl) (by decide) (by kernel_rfl) (by kernel_rfl) _ rfl
            exact does_pick rfl e28 ⟨Same.refl _, rfl⟩
          exact all_end (by decide)
        · intro x_ W hP hV
          have hB9 := hP
          have h24 : x_ 24 = .bool true := hV 24 (by decide) (.inl (by kernel_rfl))
          clear hP hV
          simp only [putL, Act.put, List.setIfInBounds_toArray, List.set_cons_succ, List.set_cons_zero, h24]
          refine wpAnyH_done (by kernel_rfl) ?_ _
          clear h24
          have hG := HNO.out k (by rw [HX1.out, HX2.out]; exact fun h => HXY.out (Option.some.inj h))
          go_wp2_with fail
          go_ret
          exact ⟨by first | rfl | (rw [hG]; rfl), hB9⟩

    · obtain rfl : k = n := by omega
      have hG := HALL.out HE.out
      go_wp2_with fail
      go_ret
      exact ⟨by first | rfl | (rw [hG]; rfl), HB.out⟩
end Go.Proofs.YtpmedgibnnonkaaDoor

/- Tables: the law wakes. -/
set_option maxRecDepth 4000
namespace Go.Proofs.YtpmedgibnnonkaaDoor
open Go Go.RowKit
theorem wk_good : goodT [([97#8, 98#8], [3]), ([99#8], [1, 2])] = true := by decide +kernel
theorem wk_bad : goodT [([97#8, 98#8], [3]), ([97#8, 98#8], [3])] = false := by decide +kernel
theorem wk_E : encE [([97#8, 98#8], [3]), ([99#8], [1, 2])] = 0 := encE_z.2 wk_good
theorem wk_f1 : findI [99#8] [([97#8, 98#8], [3]), ([99#8], [1, 2])] = 1 := by decide +kernel
theorem wk_f2 : findI [120#8] [([97#8, 98#8], [3]), ([99#8], [1, 2])] = -1 := by decide +kernel
theorem wk_d1 : decE (encT [([97#8, 98#8], [3]), ([99#8], [1, 2])]) = 0 := (tab_back wk_good).2.1
theorem wk_d2 : decLT (encT [([97#8, 98#8], [3]), ([99#8], [1, 2])]) = [([97#8, 98#8], [3]), ([99#8], [1, 2])] := (tab_back wk_good).1
theorem wk_z1 : decE (zer 32) = 0 := by decide +kernel
theorem wk_z2 : decLT (zer 32) = [] := by decide +kernel
theorem wk_at0 : (encT [([97#8, 98#8], [3]), ([99#8], [1, 2])]).getD 0 0#8 = 2#8 := by decide +kernel
theorem wk_at1 : (encT [([97#8, 98#8], [3]), ([99#8], [1, 2])]).getD 1 0#8 = 97#8 := by decide +kernel
theorem wk_at5 : (encT [([97#8, 98#8], [3]), ([99#8], [1, 2])]).getD 5 0#8 = 1#8 := by decide +kernel
theorem wk_at6 : (encT [([97#8, 98#8], [3]), ([99#8], [1, 2])]).getD 6 0#8 = 3#8 := by decide +kernel
theorem wk_at10 : (encT [([97#8, 98#8], [3]), ([99#8], [1, 2])]).getD 10 0#8 = 99#8 := by decide +kernel
set_option maxHeartbeats 3200000 in
theorem tabwakes_any (w : World) : Calls Tryd.prog 8 #[] w fun e w' => e = .returned (.bool true) ∧ Below w.heap.size w w' := by
  have HS := St.nil w noF
  refine enter_en Tryd.func8 rfl Tryd.ntmps8 (Nat.le_of_ble_eq_true rfl) fun a0 (HA0 : En 98 [] a0) => ?_
  refine sq_ <| rl_ <| wl_ <| p_ HA0 rfl rfl fun a1 H1 => ln_ <| nx <| sq_ <| rl_ <| wl_ <| n_ H1 rfl (fun _ h => dd_lits HS #[.int .i64 3] rfl (ps := [(0, .int .i64 3)]) (pr1 rfl (pr0)) (z := .int .i64 0) (sz := 1) Tryd.underlying43 (by kernel_rfl) rfl rfl (by kernel_rfl) h) fun g8 W2 HS2 a2 H2 => wl_ <| i_ H2 rfl (v := .agg #[.string (⟨#[97, 98]⟩), .slice (some ⟨g8, 0, none⟩) 1 1]) (dd_bld rfl (ps := [(0, .string (⟨#[97, 98]⟩)), (1, .slice (some ⟨g8, 0, none⟩) 1 1)]) (pr1 rfl (pr1 (H2.ev 8 rfl) (pr0))) (Lz := [[.string (⟨#[]⟩)], [.slice none 0 0]]) (by kernel_rfl) (lens_cons rfl (lens_cons rfl (lens_nil))) (fit_cons (i := 0) rfl rfl (fit_cons (i := 1) rfl rfl (fit_nil))) (cs := #[.string (⟨#[97, 98]⟩), .slice (some ⟨g8, 0, none⟩) 1 1]) rfl) fun a3 H3 => wl_ <| n_ H3 rfl (fun _ h => dd_lits HS2 #[.int .i64 1, .int .i64 2] rfl (ps := [(0, .int .i64 1), (1, .int .i64 2)]) (pr1 rfl (pr1 rfl (pr0))) (z := .int .i64 0) (sz := 1) Tryd.underlying43 (by kernel_rfl) rfl rfl (by kernel_rfl) h) fun g10 W4 HS4 a4 H4 => wl_ <| i_ H4 rfl (v := .agg #[.string (⟨#[99]⟩), .slice (some ⟨g10, 0, none⟩) 2 2]) (dd_bld rfl (ps := [(0, .string (⟨#[99]⟩)), (1, .slice (some ⟨g10, 0, none⟩) 2 2)]) (pr1 rfl (pr1 (H4.ev 10 rfl) (pr0))) (Lz := [[.string (⟨#[]⟩)], [.slice none 0 0]]) (by kernel_rfl) (lens_cons rfl (lens_cons rfl (lens_nil))) (fit_cons (i := 0) rfl rfl (fit_cons (i := 1) rfl rfl (fit_nil))) (cs := #[.string (⟨#[99]⟩), .slice (some ⟨g10, 0, none⟩) 2 2]) rfl) fun a5 H5 => wl_ <| n_ H5 rfl (fun _ h => dd_lits HS4 #[.string (⟨#[97, 98]⟩), .slice (some ⟨g8, 0, none⟩) 1 1, .string (⟨#[99]⟩), .slice (some ⟨g10, 0, none⟩) 2 2] rfl (ps := [(0, .agg #[.string (⟨#[97, 98]⟩), .slice (some ⟨g8, 0, none⟩) 1 1]), (1, .agg #[.string (⟨#[99]⟩), .slice (some ⟨g10, 0, none⟩) 2 2])]) (pr1 (H5.ev 9 rfl) (pr1 (H5.ev 11 rfl) (pr0))) (z := .agg #[.string (⟨#[]⟩), .slice none 0 0]) (sz := 2) Tryd.underlying22 (by kernel_rfl) rfl rfl (by kernel_rfl) h) fun g12 W6 HS6 a6 H6 => wl_ <| p_ H6 rfl rfl fun a7 H7 => ln_ <| nx <| sq_ <| rl_ <| wl_ <| p_ H7 rfl rfl fun a8 H8 => ?_
  clear HA0 a0 HS H1 a1 H2 a2 HS2 H3 a3 H4 a4 HS4 H5 a5 H6 a6
  refine wl_ <| c_ H8 rfl HS6 (v := .tuple #[.agg (bs (encT ([([97#8, 98#8], [3]), ([99#8], [1, 2])]))), .int .i64 0]) (dc_ Tryd.func10 rfl (args1 (H8.ev 14 rfl)) (enct_any _ _ _ ([([97#8, 98#8], [3]), ([99#8], [1, 2])]) W6 (vols_row (l := volL [([97#8, 98#8], [3]), ([99#8], [1, 2])]) (HS6.row 2 rfl) (Nat.le_refl _) (by decide) (get_consP (volAt_of (p := [97#8, 98#8]) (L := [3]) (ints_rowI (HS6.row 0 rfl) (by decide) (by decide)) (by decide)) (get_consP (volAt_of (p := [99#8]) (L := [1, 2]) (ints_rowI (HS6.row 1 rfl) (by decide) (by decide)) (by decide)) (get_nilP)))) (by decide) (by decide)) (fun _ w9 h9 => ⟨_, by rw [wk_E] at h9; exact h9.1, rfl, h9.2⟩)) fun W9 HS9 a9 H9 => wl_ <| p_ H9 rfl rfl fun a10 H10 => wl_ <| i_ H10 rfl (dd_ext rfl (H10.ev 13 rfl) rfl) fun a11 H11 => wl_ <| i_ H11 rfl (dd_ext rfl (H11.ev 13 rfl) rfl) fun a12 H12 => wl_ <| n_ H12 rfl (fun _ h => dd_new HS9 (bs (zer 32)) rfl (z := .agg (bs (zer 32))) (by kernel_rfl) rfl h) fun g2 W13 HS13 a13 H13 => wl_ <| t_ rfl (fun _ h => dd_setrow HS13 3 rfl rfl (H13.ev 2 rfl) (H13.ev 16 rfl) (by kernel_rfl) (((size_bs _).trans (length_encT _)) : (bs (encT ([([97#8, 98#8], [3]), ([99#8], [1, 2])]))).size = 32) (((size_bs _).trans (length_zer 32)) : (bs (zer 32)).size = 32) (one_bs _) h) fun W14 HS14 => wl_ <| p_ H13 rfl rfl fun a15 H15 => ln_ <| nx <| sq_ <| rl_ <| wl_ <| i_ H15 rfl (v := .agg (bs (encT ([([97#8, 98#8], [3]), ([99#8], [1, 2])])))) (dd_load HS14 3 0 rfl rfl (H15.ev 2 rfl) (slab_whole _) Tryd.underlying24 rfl (by rw [show (bs (encT ([([97#8, 98#8], [3]), ([99#8], [1, 2])]))).size = 32 from ((size_bs _).trans (length_encT _))]; kernel_rfl)) fun a16 H16 => ?_
  clear H7 a7 H8 a8 HS6 H9 a9 H10 a10 H11 a11 HS9 H12 a12 HS13 H13 a13
  clear H15 a15
  refine wl_ <| d_ H16 rfl (R := fun v w9 => ∃ A18 C18, v = .tuple #[.slice A18 2 C18, .int .i64 0] ∧ ((volL ([([97#8, 98#8], [3]), ([99#8], [1, 2])])).length = 2 ∧ 2 ≤ 3) ∧ (OV W14.heap.size w9 (.slice A18 2 C18) (volL ([([97#8, 98#8], [3]), ([99#8], [1, 2])]))) ∧ Below W14.heap.size W14 w9) (dc_ Tryd.func12 rfl (args1 (H16.ev 19 rfl)) (dect_any (encT ([([97#8, 98#8], [3]), ([99#8], [1, 2])])) W14 (length_encT _)) (fun _ w9 ⟨v9, he, ho, hb⟩ => by rw [wk_d1] at he; rw [wk_d2] at ho; obtain ⟨A9, n9, c9, rfl, h1, _⟩ := OV.form2 ho; obtain rfl : n9 = 2 := h1.symm; exact ⟨_, he, A9, c9, rfl, ⟨h1, (by decide)⟩, ho, hb⟩)) ?_
  rintro _ W17 ⟨A18, C18, rfl, hNd18, hov18, hb17⟩ a17 H17
  have HS17 := HS14.same hb17
  clear H16 a16
  have HBs19 : Below w.heap.size w W17 := HS17.below
  have HR19_0 := fun (W9 : World) (hb9 : Below W17.heap.size W17 W9) => (HS17.row 0 rfl).call hb9
  have HR19_1 := fun (W9 : World) (hb9 : Below W17.heap.size W17 W9) => (HS17.row 1 rfl).call hb9
  have HR19_2 := fun (W9 : World) (hb9 : Below W17.heap.size W17 W9) => (HS17.row 2 rfl).call hb9
  have HR19_3 := fun (W9 : World) (hb9 : Below W17.heap.size W17 W9) => (HS17.row 3 rfl).call hb9
  have HSb19 := St.nil W17 noF
  clear HS17
  have HVd18 := fun (W9 : World) (hb9 : Below W17.heap.size W17 W9) => ((hov18.vols (Nat.le_trans (Nat.le_of_eq hNd18.1) (Nat.le_trans hNd18.2 (by decide)))).below hb9 (Nat.le_refl _))
  have hMd18 := (show ∀ x ∈ ([([97#8, 98#8], [3]), ([99#8], [1, 2])] : List Tv), x.2.length ≤ 1000000 by decide)
  clear HS14 hb17
  refine wl_ <| p_ H17 rfl rfl fun a20 H20 => wl_ <| i_ H20 rfl (dd_ext rfl (H20.ev 18 rfl) rfl) fun a21 H21 => wl_ <| i_ H21 rfl (dd_ext rfl (H21.ev 18 rfl) rfl) fun a22 H22 => q_ H22 2 rfl fun a23 H23 => ln_ <| ?_
  clear H17 a17 H20 a20 H21 a21 H22 a22
  have H24 := H23.sel [1, 2, 3, 4, 5] rfl
  refine nx <| sq_ <| rl_ <| wl_ <| i_ H24 rfl (v := .agg (bs (zer 32))) (dd_bldk rfl (ps := []) (pr0) (cs := bs (zer 32)) (by kernel_rfl)) fun a25 H25 => ?_
  clear H23 H24 a23
  refine wl_ <| d_ H25 rfl (R := fun v w9 => ∃ A27 C27, v = .tuple #[.slice A27 0 C27, .int .i64 0] ∧ ((volL ([])).length = 0 ∧ 0 ≤ 3) ∧ (OV W17.heap.size w9 (.slice A27 0 C27) (volL ([]))) ∧ Below W17.heap.size W17 w9) (dc_ Tryd.func12 rfl (args1 (H25.ev 24 rfl)) (dect_any (zer 32) W17 (length_zer 32)) (fun _ w9 ⟨v9, he, ho, hb⟩ => by rw [wk_z1] at he; rw [wk_z2] at ho; obtain ⟨A9, n9, c9, rfl, h1, _⟩ := OV.form2 ho; obtain rfl : n9 = 0 := h1.symm; exact ⟨_, he, A9, c9, rfl, ⟨h1, (by decide)⟩, ho, hb⟩)) ?_
  rintro _ W26 ⟨A27, C27, rfl, hNd27, hov27, hb26⟩ a26 H26
  have HS26 := HSb19.same hb26
  clear H25 a25
  have HBs28 : Below W17.heap.size W17 W26 := HS26.below
  have HR19_0r := fun (W9 : World) (hb9 : Below W26.heap.size W26 W9) => HR19_0 W9 (HBs28.trans (hb9.mono HBs28.size))
  clear HR19_0
  have HR19_0 := HR19_0r
  clear HR19_0r
  have HR19_1r := fun (W9 : World) (hb9 : Below W26.heap.size W26 W9) => HR19_1 W9 (HBs28.trans (hb9.mono HBs28.size))
  clear HR19_1
  have HR19_1 := HR19_1r
  clear HR19_1r
  have HR19_2r := fun (W9 : World) (hb9 : Below W26.heap.size W26 W9) => HR19_2 W9 (HBs28.trans (hb9.mono HBs28.size))
  clear HR19_2
  have HR19_2 := HR19_2r
  clear HR19_2r
  have HR19_3r := fun (W9 : World) (hb9 : Below W26.heap.size W26 W9) => HR19_3 W9 (HBs28.trans (hb9.mono HBs28.size))
  clear HR19_3
  have HR19_3 := HR19_3r
  clear HR19_3r
  have HVd18r := fun (W9 : World) (hb9 : Below W26.heap.size W26 W9) => HVd18 W9 (HBs28.trans (hb9.mono HBs28.size))
  clear HVd18
  have HVd18 := HVd18r
  clear HVd18r
  have HSb28 := St.nil W26 noF
  clear HS26
  have HVd27 := fun (W9 : World) (hb9 : Below W26.heap.size W26 W9) => ((hov27.vols (Nat.le_trans (Nat.le_of_eq hNd27.1) (Nat.le_trans hNd27.2 (by decide)))).below hb9 (Nat.le_refl _))
  have hMd27 := (show ∀ x ∈ ([] : List Tv), x.2.length ≤ 1000000 by decide)
  clear HSb19 hb26
  refine wl_ <| p_ H26 rfl rfl fun a29 H29 => wl_ <| i_ H29 rfl (dd_ext rfl (H29.ev 23 rfl) rfl) fun a30 H30 => wl_ <| i_ H30 rfl (dd_ext rfl (H30.ev 23 rfl) rfl) fun a31 H31 => q_ H31 2 rfl fun a32 H32 => ln_ <| nx <| sq_ <| ?_
  clear H26 a26 H29 a29 H30 a30 H31 a31
  refine wi_ HSb28 [] rfl [] rfl fun HSh33 hx33 => hp_ H32 0 hx33 rfl rfl rfl fun a34 H34 => ht_ H34 1 hx33 rfl rfl (fun _ _ _ => dd_cmp rfl (H34.ev 28 rfl) rfl (eq_t (by decide))) fun a35 H35 => hp_ H35 2 hx33 rfl rfl rfl fun a36 H36 => htg H36 3 hx33 rfl (wg_ H36 rfl rfl rfl rfl) rfl (fun _ _ _ => xA 32 1 0 rfl (H36.ev 2 rfl) rfl) fun a37 H37 => htg H37 4 hx33 rfl (wg_ H37 rfl rfl rfl rfl) rfl (v := .int .u8 2) (fun _ _ HS9 => dd_getR (HR19_3 _ HS9.below) rfl (H37.ev 31 rfl) ((bs_get (length_encT _) 0 (by decide)).trans (by rw [wk_at0]; rfl)) Tryd.underlying5 rfl) fun a38 H38 => htg H38 5 hx33 rfl (wg_ H38 rfl rfl rfl rfl) rfl (fun _ _ _ => dd_cmp rfl (H38.ev 32 rfl) rfl (eq_t (by decide))) fun a39 H39 => hp_ H39 6 hx33 rfl rfl rfl fun a40 H40 => ?_
  clear HSb28 H32 a32 H34 a34 H35 a35 H36 a36 H37 a37 H38 a38
  refine hp_ H40 7 hx33 rfl rfl rfl fun a41 H41 => htg H41 8 hx33 rfl (wg_ H41 rfl rfl rfl rfl) rfl (fun _ _ _ => xA 32 1 1 rfl (H41.ev 2 rfl) rfl) fun a42 H42 => htg H42 9 hx33 rfl (wg_ H42 rfl rfl rfl rfl) rfl (v := .int .u8 97) (fun _ _ HS9 => dd_getR (HR19_3 _ HS9.below) rfl (H42.ev 36 rfl) ((bs_get (length_encT _) 1 (by decide)).trans (by rw [wk_at1]; rfl)) Tryd.underlying5 rfl) fun a43 H43 => htg H43 10 hx33 rfl (wg_ H43 rfl rfl rfl rfl) rfl (fun _ _ _ => dd_cmp rfl (H43.ev 37 rfl) rfl (eq_t (by decide))) fun a44 H44 => hp_ H44 11 hx33 rfl rfl rfl fun a45 H45 => hp_ H45 12 hx33 rfl rfl rfl fun a46 H46 => htg H46 13 hx33 rfl (wg_ H46 rfl rfl rfl rfl) rfl (fun _ _ _ => xA 32 1 5 rfl (H46.ev 2 rfl) rfl) fun a47 H47 => htg H47 14 hx33 rfl (wg_ H47 rfl rfl rfl rfl) rfl (v := .int .u8 1) (fun _ _ HS9 => dd_getR (HR19_3 _ HS9.below) rfl (H47.ev 41 rfl) ((bs_get (length_encT _) 5 (by decide)).trans (by rw [wk_at5]; rfl)) Tryd.underlying5 rfl) fun a48 H48 => ?_
  clear H39 a39 H40 a40 H41 a41 H42 a42 H43 a43 H44 a44 H45 a45 H46 a46
  refine htg H48 15 hx33 rfl (wg_ H48 rfl rfl rfl rfl) rfl (fun _ _ _ => dd_cmp rfl (H48.ev 42 rfl) rfl (eq_t (by decide))) fun a49 H49 => hp_ H49 16 hx33 rfl rfl rfl fun a50 H50 => hp_ H50 17 hx33 rfl rfl rfl fun a51 H51 => htg H51 18 hx33 rfl (wg_ H51 rfl rfl rfl rfl) rfl (fun _ _ _ => xA 32 1 6 rfl (H51.ev 2 rfl) rfl) fun a52 H52 => htg H52 19 hx33 rfl (wg_ H52 rfl rfl rfl rfl) rfl (v := .int .u8 3) (fun _ _ HS9 => dd_getR (HR19_3 _ HS9.below) rfl (H52.ev 46 rfl) ((bs_get (length_encT _) 6 (by decide)).trans (by rw [wk_at6]; rfl)) Tryd.underlying5 rfl) fun a53 H53 => htg H53 20 hx33 rfl (wg_ H53 rfl rfl rfl rfl) rfl (fun _ _ _ => dd_cmp rfl (H53.ev 47 rfl) rfl (eq_t (by decide))) fun a54 H54 => hp_ H54 21 hx33 rfl rfl rfl fun a55 H55 => hp_ H55 22 hx33 rfl rfl rfl fun a56 H56 => ?_
  clear H47 a47 H48 a48 H49 a49 H50 a50 H51 a51 H52 a52 H53 a53 H54 a54
  refine htg H56 23 hx33 rfl (wg_ H56 rfl rfl rfl rfl) rfl (fun _ _ _ => xA 32 1 10 rfl (H56.ev 2 rfl) rfl) fun a57 H57 => htg H57 24 hx33 rfl (wg_ H57 rfl rfl rfl rfl) rfl (v := .int .u8 99) (fun _ _ HS9 => dd_getR (HR19_3 _ HS9.below) rfl (H57.ev 51 rfl) ((bs_get (length_encT _) 10 (by decide)).trans (by rw [wk_at10]; rfl)) Tryd.underlying5 rfl) fun a58 H58 => htg H58 25 hx33 rfl (wg_ H58 rfl rfl rfl rfl) rfl (fun _ _ _ => dd_cmp rfl (H58.ev 52 rfl) rfl (eq_t (by decide))) fun a59 H59 => hp_ H59 26 hx33 rfl rfl rfl fun a60 H60 => hp_ H60 27 hx33 rfl rfl rfl fun a61 H61 => htg H61 28 hx33 rfl (wg_ H61 rfl rfl rfl rfl) rfl (fun _ _ _ => dd_mv rfl (H61.ev 5 rfl)) fun a62 H62 => htg H62 29 hx33 rfl (wg_ H62 rfl rfl rfl rfl) rfl (fun _ _ _ => dd_cmp rfl (H62.ev 56 rfl) rfl (eq_t (by decide))) fun a63 H63 => hp_ H63 30 hx33 rfl rfl rfl fun a64 H64 => ?_
  clear H55 a55 H56 a56 H57 a57 H58 a58 H59 a59 H60 a60 H61 a61 H62 a62
  refine hp_ H64 31 hx33 rfl rfl rfl fun a65 H65 => htg H65 32 hx33 rfl (wg_ H65 rfl rfl rfl rfl) rfl (fun _ _ _ => dd_mv rfl (H65.ev 4 rfl)) fun a66 H66 => htg H66 33 hx33 rfl (wg_ H66 rfl rfl rfl rfl) rfl (fun _ _ _ => dd_mv rfl (H66.ev 1 rfl)) fun a67 H67 => h1_ 34 rfl <| cg H67 (wg_ H67 rfl rfl rfl rfl) rfl HSh33 (v := .bool true) (dc_ Tryd.func16 rfl (args2 (H67.ev 60 rfl) (H67.ev 61 rfl)) (keepvols_any (volL ([([97#8, 98#8], [3]), ([99#8], [1, 2])])) (volL ([([97#8, 98#8], [3]), ([99#8], [1, 2])])) _ _ _ _ _ _ W26.drew (HVd18 _ HSh33.below) (vols_row (l := volL [([97#8, 98#8], [3]), ([99#8], [1, 2])]) (HR19_2 _ HSh33.below) (Nat.le_refl _) (by decide) (get_consP (volAt_of (p := [97#8, 98#8]) (L := [3]) (ints_rowI (HR19_0 _ HSh33.below) (by decide) (by decide)) (by decide)) (get_consP (volAt_of (p := [99#8]) (L := [1, 2]) (ints_rowI (HR19_1 _ HSh33.below) (by decide) (by decide)) (by decide)) (get_nilP)))) (Nat.le_trans hNd18.2 (by decide)) (by decide) (vols_lenB (hMd18))) (fun _ w9 h9 => ⟨_, h9.1, by rw [decide_eq_true rfl], h9.2⟩)) fun W68 HS68 a68 H68 => sx_ (sxi HS68 [] rfl) fun hx69 => hp_ H68 35 hx69 rfl rfl rfl fun a70 H70 => hp_ H70 36 hx69 rfl rfl rfl fun a71 H71 => htg H71 37 hx69 rfl (wg_ H71 rfl rfl rfl rfl) rfl (fun _ _ _ => dd_mv rfl (H71.ev 7 rfl)) fun a72 H72 => ?_
  clear H63 a63 H64 a64 H65 a65 H66 a66 H67 a67 HSh33 hx33 H68 a68 H70 a70
  refine htg H72 38 hx69 rfl (wg_ H72 rfl rfl rfl rfl) rfl (fun _ _ _ => dd_cmp rfl (H72.ev 65 rfl) rfl (eq_t (by decide))) fun a73 H73 => hp_ H73 39 hx69 rfl rfl rfl fun a74 H74 => hp_ H74 40 hx69 rfl rfl rfl fun a75 H75 => htg H75 41 hx69 rfl (wg_ H75 rfl rfl rfl rfl) rfl (fun _ _ _ => dd_mv rfl (H75.ev 6 rfl)) fun a76 H76 => htg H76 42 hx69 rfl (wg_ H76 rfl rfl rfl rfl) rfl (v := .int .i64 0) (fun _ _ _ => dd_len rfl (H76.ev 69 rfl) Tryd.underlying22) fun a77 H77 => htg H77 43 hx69 rfl (wg_ H77 rfl rfl rfl rfl) rfl (fun _ _ _ => dd_cmp rfl (H77.ev 70 rfl) rfl (eq_t (by decide))) fun a78 H78 => hp_ H78 44 hx69 rfl rfl rfl fun a79 H79 => hp_ H79 45 hx69 rfl rfl rfl fun a80 H80 => ?_
  clear H71 a71 H72 a72 H73 a73 H74 a74 H75 a75 H76 a76 H77 a77 H78 a78
  refine htg H80 46 hx69 rfl (wg_ H80 rfl rfl rfl rfl) rfl (fun _ _ _ => dd_mv rfl (H80.ev 1 rfl)) fun a81 H81 => h1_ 47 rfl <| cg H81 (wg_ H81 rfl rfl rfl rfl) rfl HS68 (v := .int .i64 1) (dc_ Tryd.func17 rfl (args2 rfl (H81.ev 74 rfl)) (find_any _ _ _ ([99#8]) ([([97#8, 98#8], [3]), ([99#8], [1, 2])]) W68 (vols_row (l := volL [([97#8, 98#8], [3]), ([99#8], [1, 2])]) (HR19_2 _ HS68.below) (Nat.le_refl _) (by decide) (get_consP (volAt_of (p := [97#8, 98#8]) (L := [3]) (ints_rowI (HR19_0 _ HS68.below) (by decide) (by decide)) (by decide)) (get_consP (volAt_of (p := [99#8]) (L := [1, 2]) (ints_rowI (HR19_1 _ HS68.below) (by decide) (by decide)) (by decide)) (get_nilP)))) (by decide)) (fun _ w9 h9 => ⟨_, h9.1, by rw [wk_f1], h9.2⟩)) fun W82 HS82 a82 H82 => sx_ (sxi HS82 [] rfl) fun hx83 => htg H82 48 hx83 rfl (wg_ H82 rfl rfl rfl rfl) rfl (fun _ _ _ => dd_cmp rfl (H82.ev 75 rfl) rfl (eq_t (by decide))) fun a84 H84 => hp_ H84 49 hx83 rfl rfl rfl fun a85 H85 => hp_ H85 50 hx83 rfl rfl rfl fun a86 H86 => htg H86 51 hx83 rfl (wg_ H86 rfl rfl rfl rfl) rfl (fun _ _ _ => dd_mv rfl (H86.ev 1 rfl)) fun a87 H87 => h1_ 52 rfl <| cg H87 (wg_ H87 rfl rfl rfl rfl) rfl HS82 (v := .int .i64 (-1)) (dc_ Tryd.func17 rfl (args2 rfl (H87.ev 79 rfl)) (find_any _ _ _ ([120#8]) ([([97#8, 98#8], [3]), ([99#8], [1, 2])]) W82 (vols_row (l := volL [([97#8, 98#8], [3]), ([99#8], [1, 2])]) (HR19_2 _ HS82.below) (Nat.le_refl _) (by decide) (get_consP (volAt_of (p := [97#8, 98#8]) (L := [3]) (ints_rowI (HR19_0 _ HS82.below) (by decide) (by decide)) (by decide)) (get_consP (volAt_of (p := [99#8]) (L := [1, 2]) (ints_rowI (HR19_1 _ HS82.below) (by decide) (by decide)) (by decide)) (get_nilP)))) (by decide)) (fun _ w9 h9 => ⟨_, h9.1, by rw [wk_f2], h9.2⟩)) fun W88 HS88 a88 H88 => ?_
  clear H79 a79 H80 a80 H81 a81 HS68 hx69 H82 a82 H84 a84 H85 a85 H86 a86
  refine sx_ (sxi HS88 [] rfl) fun hx89 => htg H88 53 hx89 rfl (wg_ H88 rfl rfl rfl rfl) rfl (fun _ _ _ => dd_cmp rfl (H88.ev 80 rfl) rfl (eq_t (by decide))) fun a90 H90 => hp_ H90 54 hx89 rfl rfl rfl fun a91 H91 => hp_ H91 55 hx89 rfl rfl rfl fun a92 H92 => htg H92 56 hx89 rfl (wg_ H92 rfl rfl rfl rfl) rfl (fun _ _ _ => dd_mv rfl (H92.ev 1 rfl)) fun a93 H93 => h1_ 57 rfl <| cg H93 (wg_ H93 rfl rfl rfl rfl) rfl HS88 (v := .bool true) (dc_ Tryd.func14 rfl (args1 (H93.ev 84 rfl)) (goodt_any _ _ _ ([([97#8, 98#8], [3]), ([99#8], [1, 2])]) W88 (vols_row (l := volL [([97#8, 98#8], [3]), ([99#8], [1, 2])]) (HR19_2 _ HS88.below) (Nat.le_refl _) (by decide) (get_consP (volAt_of (p := [97#8, 98#8]) (L := [3]) (ints_rowI (HR19_0 _ HS88.below) (by decide) (by decide)) (by decide)) (get_consP (volAt_of (p := [99#8]) (L := [1, 2]) (ints_rowI (HR19_1 _ HS88.below) (by decide) (by decide)) (by decide)) (get_nilP)))) (by decide) (by decide)) (fun _ w9 h9 => ⟨_, h9.1, by rw [wk_good], h9.2⟩)) fun W94 HS94 a94 H94 => sx_ (sxi HS94 [] rfl) fun hx95 => hp_ H94 58 hx95 rfl rfl rfl fun a96 H96 => ?_
  clear H87 a87 HS82 hx83 H88 a88 H90 a90 H91 a91 H92 a92 H93 a93 HS88 hx89
  refine hp_ H96 59 hx95 rfl rfl rfl fun a97 H97 => htg H97 60 hx95 rfl (wg_ H97 rfl rfl rfl rfl) rfl (fun _ _ _ => dd_mv rfl (H97.ev 1 rfl)) fun a98 H98 => htg H98 61 hx95 rfl (wg_ H98 rfl rfl rfl rfl) rfl (fun _ _ _ => xS 2 0 rfl (H98.ev 88 rfl) rfl) fun a99 H99 => htg H99 62 hx95 rfl (wg_ H99 rfl rfl rfl rfl) rfl (v := .agg #[.string (⟨#[97, 98]⟩), .slice (some ⟨g8, 0, none⟩) 1 1]) (fun _ _ HS9 => dd_loadR (HR19_2 _ HS9.below) rfl (H99.ev 89 rfl) rfl Tryd.underlying45 rfl (by kernel_rfl)) fun a100 H100 => htg H100 63 hx95 rfl (wg_ H100 rfl rfl rfl rfl) rfl (fun _ _ _ => dd_mv rfl (H100.ev 1 rfl)) fun a101 H101 => htg H101 64 hx95 rfl (wg_ H101 rfl rfl rfl rfl) rfl (fun _ _ _ => xS 2 0 rfl (H101.ev 91 rfl) rfl) fun a102 H102 => htg H102 65 hx95 rfl (wg_ H102 rfl rfl rfl rfl) rfl (v := .agg #[.string (⟨#[97, 98]⟩), .slice (some ⟨g8, 0, none⟩) 1 1]) (fun _ _ HS9 => dd_loadR (HR19_2 _ HS9.below) rfl (H102.ev 92 rfl) rfl Tryd.underlying45 rfl (by kernel_rfl)) fun a103 H103 => h1_ 66 rfl <| ng H103 (wg_ H103 rfl rfl rfl rfl) rfl (fun _ h => dd_lits HS94 #[.string (⟨#[97, 98]⟩), .slice (some ⟨g8, 0, none⟩) 1 1, .string (⟨#[97, 98]⟩), .slice (some ⟨g8, 0, none⟩) 1 1] rfl (ps := [(0, .agg #[.string (⟨#[97, 98]⟩), .slice (some ⟨g8, 0, none⟩) 1 1]), (1, .agg #[.string (⟨#[97, 98]⟩), .slice (some ⟨g8, 0, none⟩) 1 1])]) (pr1 (H103.ev 90 rfl) (pr1 (H103.ev 93 rfl) (pr0))) (z := .agg #[.string (⟨#[]⟩), .slice none 0 0]) (sz := 2) Tryd.underlying22 (by kernel_rfl) rfl rfl (by kernel_rfl) h) fun g94 W104 HS104 a104 H104 => ?_
  clear H94 a94 H96 a96 H97 a97 H98 a98 H99 a99 H100 a100 H101 a101 H102 a102
  refine sx_ (sxi HS104 [0] rfl) fun hx105 => h1_ 67 rfl <| cg H104 (wg_ H104 rfl rfl rfl rfl) rfl HS104 (v := .bool false) (dc_ Tryd.func14 rfl (args1 (H104.ev 94 rfl)) (goodt_any _ _ _ ([([97#8, 98#8], [3]), ([97#8, 98#8], [3])]) W104 (vols_row (l := volL [([97#8, 98#8], [3]), ([97#8, 98#8], [3])]) (HS104.row 0 rfl) (Nat.le_refl _) (by decide) (get_consP (volAt_of (p := [97#8, 98#8]) (L := [3]) (ints_rowI (HR19_0 _ HS104.below) (by decide) (by decide)) (by decide)) (get_consP (volAt_of (p := [97#8, 98#8]) (L := [3]) (ints_rowI (HR19_0 _ HS104.below) (by decide) (by decide)) (by decide)) (get_nilP)))) (by decide) (by decide)) (fun _ w9 h9 => ⟨_, h9.1, by rw [wk_bad], h9.2⟩)) fun W106 HS106 a106 H106 => sx_ (sxi HS106 [0] rfl) fun hx107 => htg H106 68 hx107 rfl (wg_ H106 rfl rfl rfl rfl) rfl (v := .bool true) (fun _ _ _ => dd_nt rfl (H106.ev 95 rfl) rfl) fun a108 H108 => hp_ H108 69 hx107 rfl rfl rfl fun a109 H109 => hp_ H109 70 hx107 rfl rfl rfl fun a110 H110 => ?_
  clear HS94 H103 a103 hx95 H104 a104 HS104 hx105 H106 a106 H108 a108 H109 a109
  refine wpAnyH_done (by kernel_rfl) ?_ _
  clear hx107
  refine nx <| wp_ret <| ret_run H110.env0 (res_t Tryd.results8 (H110.get 0 rfl)) <| ?_
  exact ⟨rfl, (HBs19.trans ((HBs28.trans (HS106.below.mono HBs28.size)).mono HBs19.size))⟩
end Go.Proofs.YtpmedgibnnonkaaDoor

/- append onto an empty slice of ints of no room of the call's own: nothing that stood is changed. -/
set_option maxRecDepth 4000
namespace Go.Proofs.YtpmedgibnnonkaaDoor
open Go Go.RowKit
end Go.Proofs.YtpmedgibnnonkaaDoor

/- The law's own volumes: copies. -/
set_option maxRecDepth 4000
namespace Go.Proofs.YtpmedgibnnonkaaDoor
open Go Go.RowKit
end Go.Proofs.YtpmedgibnnonkaaDoor

/- Are volumes not too many, nor too long? -/
set_option maxRecDepth 4000
namespace Go.Proofs.YtpmedgibnnonkaaDoor
open Go Go.RowKit
end Go.Proofs.YtpmedgibnnonkaaDoor

/- The statements TableTells, TableBack: their walks. -/
set_option maxRecDepth 4000
namespace Go.Proofs.YtpmedgibnnonkaaDoor
open Go Go.RowKit
end Go.Proofs.YtpmedgibnnonkaaDoor

/- Where each byte of a table's block stands. No function of the program is named here. -/
set_option maxRecDepth 4000
namespace Go.Proofs.YtpmedgibnnonkaaDoor
open Go Go.RowKit
theorem getD_left {A B : List (BitVec 8)} {i : Nat} (h : i < A.length) : (A ++ B).getD i 0#8 = A.getD i 0#8 := by
  rw [List.getD_eq_getElem?_getD, List.getElem?_append_left h, ← List.getD_eq_getElem?_getD]
theorem getD_right {A B : List (BitVec 8)} {i : Nat} (h : A.length ≤ i) : (A ++ B).getD i 0#8 = B.getD (i - A.length) 0#8 := by
  rw [List.getD_eq_getElem?_getD, List.getElem?_append_right h, ← List.getD_eq_getElem?_getD]
theorem getD_zer (n i : Nat) : (zer n).getD i 0#8 = 0#8 := by
  unfold zer
  rw [List.getD_eq_getElem?_getD]
  by_cases h : i < n
  · rw [List.getElem?_replicate, if_pos h]; rfl
  · rw [List.getElem?_replicate, if_neg h]; rfl
theorem flat_getT : ∀ (l : List Tv) (k : Nat) (x : Tv), l[k]? = some x → ∀ j, j < 9 → (l.flatMap volE).getD (9 * k + j) 0#8 = (volE x).getD j 0#8
  | [], k, x, h, j, hj => by simp at h
  | y :: l, 0, x, h, j, hj => by
    obtain rfl : y = x := by simpa using h
    rw [List.flatMap_cons, getD_left (by rw [length_volE]; omega), Nat.mul_zero, Nat.zero_add]
  | y :: l, k + 1, x, h, j, hj => by
    rw [List.flatMap_cons, getD_right (by rw [length_volE]; omega), length_volE, show 9 * (k + 1) + j - 9 = 9 * k + j by omega]
    exact flat_getT l k x (by simpa using h) j hj
theorem enc_B {l : List Tv} (h : goodT l = true) : encT l = encB l := by unfold encT; rw [h]; rfl
theorem pl_0 {l : List Tv} {n : Nat} (h : goodT l = true) (hl : l.length = n) : bd ((encT l).getD 0 0#8) = n := by
  have h3 := (goodT_parts h).1
  rw [enc_B h, show (encB l).getD 0 0#8 = byteI (l.length : Int) from rfl, hl]
  exact bd_byteI12 (by omega) (by omega)
theorem pl_get {l : List Tv} {k : Nat} {x : Tv} (h : goodT l = true) (hx : l[k]? = some x) (j : Nat) (hj : j < 9) : (encT l).getD (1 + 9 * k + j) 0#8 = (volE x).getD j 0#8 := by
  have hk := (List.getElem?_eq_some_iff.1 hx).1
  rw [enc_B h]
  unfold encB
  rw [List.append_assoc, getD_right (by show 1 ≤ _; omega), show [byteI (l.length : Int)].length = 1 from rfl, show 1 + 9 * k + j - 1 = 9 * k + j by omega, getD_left (by rw [len_flatE]; omega)]
  exact flat_getT l k x hx j hj
theorem pl_zero {l : List Tv} {n p : Nat} (h : goodT l = true) (hl : l.length = n) (hp : 1 + 9 * n ≤ p) : (encT l).getD p 0#8 = 0#8 := by
  rw [enc_B h]
  unfold encB
  rw [getD_right (by rw [List.length_append, len_flatE, hl]; exact hp), getD_zer]
theorem vol_name_at {x : Tv} {j : Nat} (_ : x.1.length ≤ 4) (hj : j < 4) : (volE x).getD j 0#8 = x.1.getD j 0#8 := by
  unfold volE
  rw [getD_left (by rw [length_padN]; exact hj)]
  unfold padN
  rw [List.getD_eq_getElem?_getD, List.getElem?_take_of_lt hj, ← List.getD_eq_getElem?_getD]
  by_cases h : j < x.1.length
  · rw [getD_left h]
  · rw [getD_right (by omega), getD_zer, List.getD_eq_getElem?_getD, List.getElem?_eq_none (by omega)]; rfl
theorem vol_num_at (x : Tv) : (volE x).getD 4 0#8 = byteI (x.2.length : Int) := by
  unfold volE
  rw [getD_right (by rw [length_padN]; omega), length_padN]; rfl
theorem vol_blk_at (x : Tv) {j : Nat} (hj : j < 4) : (volE x).getD (5 + j) 0#8 = byteI (x.2.getD j 0) := by
  unfold volE
  rw [getD_right (by rw [length_padN]; omega), length_padN, show 5 + j - 4 = j + 1 by omega]
  rcases (by omega : j = 0 ∨ j = 1 ∨ j = 2 ∨ j = 3) with rfl | rfl | rfl | rfl <;> rfl
theorem getD_none {α : Type} {l : List α} {j : Nat} {d : α} (h : l.length ≤ j) : l.getD j d = d := by rw [List.getD_eq_getElem?_getD, List.getElem?_eq_none h]; rfl
section
variable {l : List Tv} {k b : Nat} {p : List (BitVec 8)} {L : List Int} (h : goodT l = true) (hx : l[k]? = some (p, L)) (hb : 1 + 9 * k = b)
include h hx hb
theorem pl_name {j : Nat} (hj : j < 4) : bd ((encT l).getD (b + j) 0#8) = bd (p.getD j 0#8) := by
  subst hb
  rw [pl_get h hx j (by omega), vol_name_at (good_len (good_vals h (List.mem_of_getElem? hx)).1).2.1 hj]
theorem pl_name0 {j : Nat} (hj : j < 4) (h0 : p.length ≤ j) : bd ((encT l).getD (b + j) 0#8) = 0 := by rw [pl_name h hx hb hj, getD_none h0]; rfl
theorem pl_num : bd ((encT l).getD (b + 4) 0#8) = (L.length : Int) := by
  subst hb
  have hv := good_vals h (List.mem_of_getElem? hx)
  have hv3 : L.length ≤ 4 := hv.2.2.1
  rw [pl_get h hx 4 (by omega), vol_num_at]
  exact bd_byteI12 (by omega) (by omega)
theorem pl_blk {j : Nat} (hj : j < 4) : bd ((encT l).getD (b + 5 + j) 0#8) = bd (byteI (L.getD j 0)) := by
  subst hb
  rw [Nat.add_assoc, pl_get h hx (5 + j) (by omega), vol_blk_at _ hj]
theorem pl_blk0 {j : Nat} (hj : j < 4) (h0 : L.length ≤ j) : bd ((encT l).getD (b + 5 + j) 0#8) = 0 := by rw [pl_blk h hx hb hj, getD_none h0]; rfl
end
theorem pl_bad {l : List Tv} {r : Nat} (hr : r < 4) : okD ((encT l).set (28 + r) 1#8) = false := by
  cases hk : okD ((encT l).set (28 + r) 1#8) with
  | false => rfl
  | true =>
    obtain ⟨h1, h2⟩ := okD_parts hk
    have h3 := pl_zero (p := 28 + r) h1 rfl (by have := (goodT_parts h1).1; omega)
    rw [h2, List.getD_eq_getElem?_getD, List.getElem?_set_self (by rw [length_encT]; omega)] at h3
    cases h3
end Go.Proofs.YtpmedgibnnonkaaDoor
