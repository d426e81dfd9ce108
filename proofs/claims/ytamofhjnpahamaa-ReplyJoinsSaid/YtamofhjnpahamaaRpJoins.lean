/- The statement ReplyJoins: its walk. -/
import Derived.Test.YtamofhjnpahamaaRpTurns
set_option maxRecDepth 4000
namespace Go.Proofs.Ytamofhjnpahamaa
open Go Go.RowKit
theorem jn_split {l : List Rp} {k : Nat} {x : Rp} (h : l[k]? = some x) : ∃ post, (l.map bytR).flatten = ((l.take k).map bytR).flatten ++ (bytR x ++ post) :=
  ⟨((l.drop (k + 1)).map bytR).flatten, by
    have h1 := jn_take h
    have h2 : (l.map bytR).flatten = ((l.take (k + 1)).map bytR).flatten ++ ((l.drop (k + 1)).map bytR).flatten := by
      rw [← List.flatten_append, ← List.map_append, List.take_append_drop]
    rw [h2, h1, List.append_assoc]⟩
theorem bytR_five {x : Rp} (h : okR x = true) : bd ((bytR x).getD 5 0#8) = (x.2.2.length : Int) := by
  obtain ⟨_, _, _, _, h5⟩ := mayR_of h
  show bd (byteZ (x.2.2.length : Int)) = _
  exact bd_byteZ (by omega) (by omega)
theorem all_okR {l : List Rp} (h : l.all okR = true) : ∀ x ∈ l, okR x = true := List.all_eq_true.1 h
theorem jnB_of {l : List Rp} (h : ∀ x ∈ l, okR x = true) : jnB l = (l.map bytR).flatten ∧ jnE l = 0 := by
  unfold jnB jnE
  rw [List.all_eq_true.2 h]
  exact ⟨rfl, rfl⟩
theorem jnB_bad {l : List Rp} (h : l.all okR = false) : jnB l = [] ∧ jnE l = 11 := by
  unfold jnB jnE
  rw [h]
  exact ⟨rfl, rfl⟩
set_option maxRecDepth 20000 in
set_option maxHeartbeats 3200000 in
theorem rpjoins_walk (A : Option Addr) (n c : Nat) (l : List Rp) (cut' : Int) (w : World) (h : RepsAt w (.slice A n c) l) (hn : n ≤ maxLen) (hc : (Lit.int .u8 cut').wf = true) :
    Calls Try.prog 5 #[.slice A n c, .int .u8 cut'] w fun e w' => e = .returned (.bool true) ∧ Below w.heap.size w w' := by
  obtain ⟨cut, rfl, hcut⟩ := nat_u8 hc
  have HF := Lib.hid (fairrep_any A n c l w h hn)
  have hln := reps_len h
  clear hc hn
  cases hfr : fairR l with
  | false =>
    rw [hfr] at HF
    clear h hln
    go_enter Try.func5, Try.ntmps5
    go_wp2_with fail
    refine (HF.out).mono ?_
    rintro x w2 ⟨rfl, rfl⟩
    go_wp2_with fail
    refine (rpwakes_any w).mono ?_
    rintro x9 w99 ⟨rfl, hb9⟩
    go_wp2_with fail
    go_ret
    exact ⟨rfl, (Below.refl w.heap.size w).trans (hb9.mono (Below.refl w.heap.size w).size)⟩
  | true =>
    rw [hfr] at HF
    obtain ⟨h600, h20⟩ := fairR_of hfr
    clear hfr
    have hn20 : n ≤ 20 := by omega
    have HJ := Lib.hid (repjoin_any A n c l w h (by omega))
    cases hall : l.all okR with
    | false =>
      rw [(jnB_bad hall).1, (jnB_bad hall).2] at HJ
      clear h hln h600 h20 hall
      go_enter Try.func5, Try.ntmps5
      go_wp2_with fail
      refine (HF.out).mono ?_
      rintro x w2 ⟨rfl, rfl⟩
      go_upto_region 3 with fail
      go_wp2_with fail
      refine HJ.out.mono ?_
      rintro x w3 ⟨v, rfl, ho, hb⟩
      have HB := Lib.hid hb
      obtain ⟨A5, c5, rfl, _⟩ := own_slice_form ho
      clear HJ ho hb
      go_wp2_with fail
      refine (rpwakes_any w3).mono ?_
      rintro x9 w99 ⟨rfl, hb9⟩
      go_wp2_with fail
      go_ret
      exact ⟨rfl, HB.out.trans (hb9.mono HB.out.size)⟩
    | true =>
      have HOK := Lib.hid (all_okR hall)
      rw [(jnB_of HOK.out).1, (jnB_of HOK.out).2] at HJ
      obtain ⟨J, hJ⟩ : ∃ J, (l.map bytR).flatten = J := ⟨_, rfl⟩
      obtain ⟨L, hL⟩ : ∃ L, J.length = L := ⟨_, rfl⟩
      have hL263 : L ≤ 263 * n := by rw [← hL, ← hJ, ← hln]; exact jn_len HOK.out
      rw [hJ, hL] at HJ
      obtain ⟨K, hK⟩ : ∃ K : Nat, cut % (n + 1) = K := ⟨_, rfl⟩
      have hKn : K ≤ n := by have := Nat.mod_lt cut (show 0 < n + 1 by omega); omega
      obtain ⟨J1, hJ1⟩ : ∃ J1, ((l.take K).map bytR).flatten = J1 := ⟨_, rfl⟩
      obtain ⟨J2, hJ2⟩ : ∃ J2, ((l.drop K).map bytR).flatten = J2 := ⟨_, rfl⟩
      have hJJ : J1 ++ J2 = J := by rw [← hJ, ← hJ1, ← hJ2, ← List.flatten_append, ← List.map_append, List.take_append_drop]
      obtain ⟨L1, hL1⟩ : ∃ L1, J1.length = L1 := ⟨_, rfl⟩
      obtain ⟨L2, hL2⟩ : ∃ L2, J2.length = L2 := ⟨_, rfl⟩
      have hLL : L1 + L2 = L := by rw [← hL, ← hJJ, List.length_append, hL1, hL2]
      have hw1 : IntKind.i64.wrap (cut : Int) = (cut : Int) := i64_id _ (by omega) (by omega)
      have hw2 : IntKind.i64.wrap ((n : Int) + 1) = (n : Int) + 1 := i64_id _ (by omega) (by omega)
      have hm : (cut : Int).tmod ((n : Int) + 1) = (K : Int) := by rw [Int.tmod_eq_emod_of_nonneg (by omega), ← hK]; push_cast; rfl
      have hwK : IntKind.i64.wrap (K : Int) = (K : Int) := i64_id _ (by omega) (by omega)
      have hz : ((n : Int) + 1 == 0) = false := beq_eq_false_iff_ne.2 (by omega)
      have hz2 : ¬ (n : Int) + 1 = 0 := by omega
      have HW6 := Lib.hid (And.intro hw1 (And.intro hw2 (And.intro hm (And.intro hwK (And.intro hz hz2)))))
      clear hw1 hw2 hm hwK hz hz2
      by_cases hn0 : n = 0
      · subst hn0
        obtain rfl : l = [] := List.eq_nil_of_length_eq_zero hln
        have hcA : A = none → c = 0 := by
          obtain ⟨A', c', e1, g2, g3, g4, g5⟩ := id h
          have e1 : Value.slice A 0 c = .slice A' 0 c' := by simpa using e1
          injection e1 with e1 e2 e3
          rw [e1, e3]; exact g3
        obtain rfl : J = [] := by rw [← hJ]; rfl
        obtain rfl : L = 0 := by rw [← hL]; rfl
        have HJN : Hid (∀ A' c' W, (A' = none → c' = 0) → Calls Try.prog 13 #[.slice A' 0 c'] W fun x w' => ∃ v, x = .returned (.tuple #[v, .int .i64 0]) ∧ w'.ownsRow W.heap.size 5 1 v 0 (bytesV []) ∧ Below W.heap.size W w') := Lib.hid (fun A' c' W hA' => repjoin_any A' 0 c' [] W ⟨A', c', rfl, Nat.zero_le _, hA', by decide, fun h => absurd rfl h⟩ (by omega))
        have hw1 : IntKind.i64.wrap (cut : Int) = (cut : Int) := i64_id _ (by omega) (by omega)
        have HW1 := Lib.hid hw1
        clear h hall hln h600 hK hL263 hJ hL hJ1 hJ2 hJJ hL1 hL2 hLL HOK hw1 HW6
        cases A with
        | none =>
          obtain rfl : c = 0 := hcA rfl
          go_enter Try.func5, Try.ntmps5
          go_wp2_with fail
          refine (HF.out).mono ?_
          rintro x w2 ⟨rfl, rfl⟩
          go_upto_region 3 with fail
          go_wp2_with fail
          refine HJ.out.mono ?_
          rintro x w3 ⟨v, rfl, ho, hb⟩
          have HB3 := Lib.hid hb
          have hs3 := own_slice (q := []) ho
          obtain ⟨AJ, cj, rfl, hcj⟩ := own_slice_form ho
          have HSJ := Lib.hid hs3
          clear HJ ho hb hs3
          have hw1 := HW1.out
          go_upto_region 7 with fail
          clear hw1
          go_wp2_with fail
          refine (HJN.out none 0 _ (fun _ => rfl)).mono ?_
          rintro x w4 ⟨v1, rfl, ho1, hb⟩
          have HB4 := Lib.hid (HB3.out.trans (hb.mono HB3.out.size))
          have HO1 := Lib.hid ho1
          have HB34 := Lib.hid hb
          clear ho1 hb
          go_wp2_with fail
          refine (HJN.out none 0 _ (fun _ => rfl)).mono ?_
          rintro x w5 ⟨v2, rfl, ho2, hb⟩
          have HB5 := Lib.hid (HB4.out.trans (hb.mono HB4.out.size))
          have HO1x := Lib.hid (owns_call HO1.out hb)
          have HB35 := Lib.hid (HB34.out.trans (hb.mono HB34.out.size))
          have hsl2 := own_slice (q := []) ho2
          have hnl2 := own_nil ho2
          obtain ⟨A2, c2, rfl, _⟩ := own_slice_form ho2
          clear ho2 hb HO1 HB34
          have hb35 : w3.heap.size ≤ w5.heap.size := HB35.out.size
          go_wp2_with (first | (refine wpList_guarded (by rfl) (fun K9 hK9 => ?_); refine wp_append_slice (.tmp 65) (.tmp 66) rfl w3.heap.size _ 0 _ rfl HO1x.out A2 0 c2 [] rfl hsl2 (fun h => hnl2 _ _ (by rw [h])) (by decide) hb35 (fun v6 w6 own6 hb6 => hK9 _ _ ?_); clear hK9; rw [← bytesV_apps] at own6; have HO6 := Lib.hid own6; have HSJ6 := Lib.hid (HSJ.out.below (HB35.out.trans hb6) (Nat.le_refl _)); have HB6 := Lib.hid (HB5.out.trans (hb6.mono HB3.out.size)); clear own6 hb6))
          have hs6 := own_slice (q := []) HO6.out
          obtain ⟨A6, c6, rfl, _⟩ := own_slice_form HO6.out
          have CB := keepb_any _ _ [] [] w6 hs6 HSJ6.out
          rw [decide_eq_true rfl] at CB
          clear hs6 hb35 hsl2 hnl2 HO1x HO6 HSJ
          refine CB.mono ?_
          rintro x w7 ⟨rfl, rfl⟩
          clear CB
          go_upto_region 11 with fail
          go_wp2_with fail
          go_loopw [12, 13] (fun p i wr => p = .int .i64 0 ∧ i = .int .i64 0 ∧ Below w.heap.size w wr) (fun _ _ _ => 0)
          case atStart => exact ⟨rfl, rfl, HB6.out⟩
          case round =>
            obtain ⟨rfl, rfl, hbr⟩ := hrel
            have HBR := Lib.hid hbr
            clear hbr
            go_wp2_with fail
            refine (rpwakes_any _).mono ?_
            rintro x9 w99 ⟨rfl, hb9⟩
            go_wp2_with fail
            go_ret
            exact ⟨rfl, HBR.out.trans (hb9.mono HBR.out.size)⟩
        | some ad =>
          clear hcA
          go_enter Try.func5, Try.ntmps5
          go_wp2_with fail
          refine (HF.out).mono ?_
          rintro x w2 ⟨rfl, rfl⟩
          go_upto_region 3 with fail
          go_wp2_with fail
          refine HJ.out.mono ?_
          rintro x w3 ⟨v, rfl, ho, hb⟩
          have HB3 := Lib.hid hb
          have hs3 := own_slice (q := []) ho
          obtain ⟨AJ, cj, rfl, hcj⟩ := own_slice_form ho
          have HSJ := Lib.hid hs3
          clear HJ ho hb hs3
          have hw1 := HW1.out
          go_upto_region 7 with fail
          clear hw1
          go_wp2_with fail
          refine (HJN.out _ _ _ (by first | (split <;> (intro h; cases h)) | (intro h; cases h))).mono ?_
          rintro x w4 ⟨v1, rfl, ho1, hb⟩
          have HB4 := Lib.hid (HB3.out.trans (hb.mono HB3.out.size))
          have HO1 := Lib.hid ho1
          have HB34 := Lib.hid hb
          clear ho1 hb
          go_wp2_with fail
          refine (HJN.out _ _ _ (by first | (split <;> (intro h; cases h)) | (intro h; cases h))).mono ?_
          rintro x w5 ⟨v2, rfl, ho2, hb⟩
          have HB5 := Lib.hid (HB4.out.trans (hb.mono HB4.out.size))
          have HO1x := Lib.hid (owns_call HO1.out hb)
          have HB35 := Lib.hid (HB34.out.trans (hb.mono HB34.out.size))
          have hsl2 := own_slice (q := []) ho2
          have hnl2 := own_nil ho2
          obtain ⟨A2, c2, rfl, _⟩ := own_slice_form ho2
          clear ho2 hb HO1 HB34
          have hb35 : w3.heap.size ≤ w5.heap.size := HB35.out.size
          go_wp2_with (first | (refine wpList_guarded (by rfl) (fun K9 hK9 => ?_); refine wp_append_slice (.tmp 65) (.tmp 66) rfl w3.heap.size _ 0 _ rfl HO1x.out A2 0 c2 [] rfl hsl2 (fun h => hnl2 _ _ (by rw [h])) (by decide) hb35 (fun v6 w6 own6 hb6 => hK9 _ _ ?_); clear hK9; rw [← bytesV_apps] at own6; have HO6 := Lib.hid own6; have HSJ6 := Lib.hid (HSJ.out.below (HB35.out.trans hb6) (Nat.le_refl _)); have HB6 := Lib.hid (HB5.out.trans (hb6.mono HB3.out.size)); clear own6 hb6))
          have hs6 := own_slice (q := []) HO6.out
          obtain ⟨A6, c6, rfl, _⟩ := own_slice_form HO6.out
          have CB := keepb_any _ _ [] [] w6 hs6 HSJ6.out
          rw [decide_eq_true rfl] at CB
          clear hs6 hb35 hsl2 hnl2 HO1x HO6 HSJ
          refine CB.mono ?_
          rintro x w7 ⟨rfl, rfl⟩
          clear CB
          go_upto_region 11 with fail
          go_wp2_with fail
          go_loopw [12, 13] (fun p i wr => p = .int .i64 0 ∧ i = .int .i64 0 ∧ Below w.heap.size w wr) (fun _ _ _ => 0)
          case atStart => exact ⟨rfl, rfl, HB6.out⟩
          case round =>
            obtain ⟨rfl, rfl, hbr⟩ := hrel
            have HBR := Lib.hid hbr
            clear hbr
            go_wp2_with fail
            refine (rpwakes_any _).mono ?_
            rintro x9 w99 ⟨rfl, hb9⟩
            go_wp2_with fail
            go_ret
            exact ⟨rfl, HBR.out.trans (hb9.mono HBR.out.size)⟩

      · obtain ⟨hcn, b, o, rfl⟩ : n ≤ c ∧ ∃ b o, A = some ⟨b, o, none⟩ := by
          obtain ⟨A', c', e1, g2, g3, g4, g5⟩ := id h
          have e1 : Value.slice A n c = .slice A' l.length c' := by simpa using e1
          injection e1 with e1 e2 e3
          obtain ⟨b, o, e4, _⟩ := g5 (by rintro rfl; simp at hln; omega)
          exact ⟨by omega, b, o, by rw [e1, e4]⟩
        have h1 : RepsAt w (.slice (some ⟨b, o, none⟩) K c) (l.take K) := by
          have := reps_part h 0 K c (Nat.zero_le _) hKn (by omega)
          simpa using this
        obtain ⟨E8, hE8⟩ : ∃ E8 : Option Addr, (if c = K then some ⟨b, o, none⟩ else some ⟨b, o + K * 3, none⟩) = E8 := ⟨_, rfl⟩
        have h2 : RepsAt w (.slice E8 (n - K) (c - K)) (l.drop K) := by
          have h3 := reps_part h K n (c - K) hKn (Nat.le_refl _) (by omega)
          rw [List.take_of_length_le (by omega)] at h3
          rw [← hE8]
          by_cases hcK : c = K
          · rw [if_pos hcK]
            obtain ⟨A', c', e1, g2, g3, g4, g5⟩ := h3
            have e1 : Value.slice (some ⟨b, o + K * 3, none⟩) (n - K) (c - K) = .slice A' (l.drop K).length c' := by simpa using e1
            injection e1 with _ e2 e3
            have h0 : l.drop K = [] := List.eq_nil_of_length_eq_zero (by omega)
            rw [h0]
            exact ⟨_, c - K, by rw [show n - K = 0 by omega]; rfl, Nat.zero_le _, fun h => (by cases h), by decide, fun h => absurd rfl h⟩
          · rw [if_neg hcK]; exact h3
        have okT : ∀ x ∈ l.take K, okR x = true := fun x hx => HOK.out x (List.mem_of_mem_take hx)
        have okD : ∀ x ∈ l.drop K, okR x = true := fun x hx => HOK.out x (List.mem_of_mem_drop hx)
        have HJ1 := Lib.hid (fun W (hb : Below w.heap.size w W) => repjoin_any _ K c (l.take K) W (h1.below hb (Nat.le_refl _)) (by omega))
        have HJ2 := Lib.hid (fun W (hb : Below w.heap.size w W) => repjoin_any E8 (n - K) (c - K) (l.drop K) W (h2.below hb (Nat.le_refl _)) (by omega))
        rw [(jnB_of okT).1, (jnB_of okT).2, hJ1, hL1] at HJ1
        rw [(jnB_of okD).1, (jnB_of okD).2, hJ2, hL2] at HJ2
        have HGET := Lib.hid (fun k (hk : k < l.length) => reps_get h hk)
        have HPART := Lib.hid (fun k (hk : k < n) => reps_part h k (k + 1) (c - k) (by omega) (by omega) (by omega))
        have HLN := Lib.hid hln
        have HJE := Lib.hid hJ
        have HJL := Lib.hid hL
        have HJJ := Lib.hid hJJ
        have HE8 := Lib.hid hE8
        have HLL := Lib.hid hLL
        have HL12 := Lib.hid (And.intro hL1 hL2)
        have hc1 : (K : Int) ≤ (c : Int) := by omega
        have hc2 : K ≤ c := by omega
        have hc3 : (n : Int) ≤ (c : Int) := by omega
        have hc4 : (K : Int) ≤ (n : Int) := by omega
        have HCC := Lib.hid (And.intro hc1 (And.intro hc2 (And.intro hc3 hc4)))
        have hl5 : L ≤ 5260 := by omega
        clear h h1 h2 okT okD hall hJ hL hJ1 hJ2 hJJ hL1 hL2 hLL hE8 hln h600 hK hL263 hc1 hc2 hc3 hc4
        go_enter Try.func5, Try.ntmps5
        go_wp2_with fail
        refine (HF.out).mono ?_
        rintro x w2 ⟨rfl, rfl⟩
        go_upto_region 3 with fail
        go_wp2_with fail
        refine HJ.out.mono ?_
        rintro x w3 ⟨v, rfl, ho, hb⟩
        have HB3 := Lib.hid hb
        have hs3 := own_slice (q := J) (by rw [HJL.out]; exact ho)
        obtain ⟨AJ, cj, rfl, hcj⟩ := own_slice_form ho
        have HSJ := Lib.hid hs3
        clear HJ ho hb hs3
        obtain ⟨hw1, hw2, hm, hwK, hz, hz2⟩ := HW6.out
        go_upto_region 7 with fail
        clear hw1 hw2 hm hwK hz hz2
        obtain ⟨hc1, hc2, hc3, hc4⟩ := HCC.out
        have C1 := HJ1.out w3 HB3.out
        go_wp2_with fail
        refine C1.mono ?_
        rintro x w4 ⟨v1, rfl, ho1, hb⟩
        have HB4 := Lib.hid (HB3.out.trans (hb.mono HB3.out.size))
        have HO1 := Lib.hid ho1
        have HB34 := Lib.hid hb
        clear ho1 hb C1 HJ1
        have C2 := HJ2.out w4 HB4.out
        have hE8 := HE8.out
        go_wp2_with fail
        refine C2.mono ?_
        rintro x w5 ⟨v2, rfl, ho2, hb⟩
        have HB5 := Lib.hid (HB4.out.trans (hb.mono HB4.out.size))
        have HO1x := Lib.hid (owns_call HO1.out hb)
        have HB35 := Lib.hid (HB34.out.trans (hb.mono HB34.out.size))
        have hsl2 := own_slice (q := J2) (by rw [HL12.out.2]; exact ho2)
        have hnl2 := own_nil ho2
        obtain ⟨A2, c2, rfl, _⟩ := own_slice_form ho2
        clear ho2 hb C2 HJ2 HO1 HB34 hc1 hc2 hc3 hc4 hE8
        have hl12 : L1 + L2 ≤ 1000000000 := by have := HLL.out; omega
        have hb35 : w3.heap.size ≤ w5.heap.size := HB35.out.size
        go_wp2_with (first | (refine wpList_guarded (by rfl) (fun K9 hK9 => ?_); refine wp_append_slice (.tmp 65) (.tmp 66) rfl w3.heap.size _ L1 _ rfl HO1x.out A2 L2 c2 J2 rfl hsl2 (fun h => hnl2 _ _ (by rw [h])) hl12 hb35 (fun v6 w6 own6 hb6 => hK9 _ _ ?_); clear hK9; rw [← bytesV_apps, HJJ.out] at own6; have HO6 := Lib.hid own6; have HSJ6 := Lib.hid (HSJ.out.below (HB35.out.trans hb6) (Nat.le_refl _)); have HB6 := Lib.hid (HB5.out.trans (hb6.mono HB3.out.size)); clear own6 hb6))
        have hs6 := own_slice (q := J) (by rw [HJL.out, ← HLL.out]; exact HO6.out)
        obtain ⟨A6, c6, rfl, _⟩ := own_slice_form HO6.out
        have CB := keepb_any _ _ J J w6 hs6 HSJ6.out
        rw [decide_eq_true rfl] at CB
        clear hs6 hl12 hb35 hsl2 hnl2 HO1x HO6 HSJ
        refine CB.mono ?_
        rintro x w7 ⟨rfl, rfl⟩
        clear CB
        go_upto_region 11 with fail
        go_wp2_with fail
        go_loopw [12, 13] (fun p i wr => ∃ k : Nat, k ≤ n ∧ p = .int .i64 (((l.take k).map bytR).flatten.length : Nat) ∧ i = .int .i64 k ∧ Below w.heap.size w wr ∧ Slice wr (.slice AJ L cj) J) (fun _ i _ => n - (intOf i).toNat)
        case atStart => exact ⟨0, by omega, rfl, rfl, HB6.out, HSJ6.out⟩
        case round =>
          obtain ⟨k, hk, rfl, rfl, hbr, hsj⟩ := hrel
          by_cases hlt : k < n
          · obtain ⟨b', o', i, e, B, m, c1, d, hx, hA, hbw, hr, _, hmd, _, _, a1, a2, a3, a4⟩ := HGET.out k (by rw [HLN.out]; exact hlt)
            injection hA with hA
            injection hA with hA1 hA2
            subst hA1 hA2
            have hox := HOK.out _ (List.mem_of_getElem? hx)
            have hol := okR_len hox
            have h255 : m ≤ 255 := by have := hol.2; rw [← hmd]; exact this
            obtain ⟨p, hp⟩ : ∃ p, ((l.take k).map bytR).flatten.length = p := ⟨_, rfl⟩
            obtain ⟨post, hpost⟩ := jn_split hx
            rw [HJE.out] at hpost
            have hlb : (bytR (i, e, d)).length = m + 8 := by have := hol.1; rw [this, show d.length = m from hmd]; omega
            have hLp : L = p + (m + 8 + post.length) := by rw [← HJL.out, hpost, List.length_append, List.length_append, hp, hlb]
            have hpk : ((l.take (k + 1)).map bytR).flatten.length = p + m + 8 := by rw [jn_take hx, List.length_append, hp, hlb]; omega
            have hdrop : (J.drop p).take (m + 8) = bytR (i, e, d) := by rw [hpost, ← hp, List.drop_left]; exact List.take_left' hlb
            have h5 : bd (J.getD (p + 5) 0#8) = (m : Int) := by
              rw [hpost, List.getD_eq_getElem?_getD, List.getElem?_append_right (by omega), hp, show p + 5 - p = 5 by omega, List.getElem?_append_left (by rw [hlb]; omega), ← List.getD_eq_getElem?_getD, bytR_five hox]
              show (d.length : Int) = _
              rw [hmd]
            obtain ⟨gb, ob, rfl, hba, hcj2⟩ := slice_bat hsj (by rw [HJL.out]; omega)
            obtain ⟨O, hO⟩ : ∃ O, o + k * 3 = O := ⟨_, rfl⟩
            rw [hO] at hr
            have HC2 : Hid (w.cell? ⟨b, O + 2, none⟩ = some (.slice B m c1)) := Lib.hid (hr 2 _ rfl)
            have HR1 : Hid (RepsAt w (.slice (some ⟨b, O, none⟩) 1 (c - k)) [(i, e, d)]) := Lib.hid (by
              have h3 := HPART.out k hlt
              rw [hO, show k + 1 - k = 1 by omega] at h3
              have e3 : (l.take (k + 1)).drop k = [(i, e, d)] := by
                obtain ⟨hkl, hkx⟩ := List.getElem?_eq_some_iff.1 hx
                rw [List.take_add_one, List.getElem?_eq_getElem hkl, List.drop_append, List.drop_of_length_le (by rw [List.length_take]; omega), List.length_take, Nat.min_eq_left (by omega), Nat.sub_self, hkx]; rfl
              rw [e3] at h3; exact h3)
            have HCJ : Hid (L ≤ cj) := Lib.hid (by rw [← HJL.out]; exact hcj2)
            have HW := Lib.hid hbw
            have HO := Lib.hid hO
            have HDM := Lib.hid (show d.length = m from hmd)
            have HM255 := Lib.hid h255
            have HI4 := Lib.hid (And.intro a1 (And.intro a2 (And.intro a3 a4)))
            have HM5 := Lib.hid h5
            obtain ⟨s, hs⟩ : ∃ s, L - p = s := ⟨_, rfl⟩
            have HSW : Hid (IntKind.i64.wrap ((L : Int) - (p : Int)) = (s : Int)) := Lib.hid (by rw [i64_id _ (by omega) (by omega)]; omega)
            have HSM : Hid (decide ((s : Int) < (m : Int) + 8) = false) := Lib.hid (decide_eq_false (by omega))
            have HP5 : Hid (IntKind.i64.wrap ((p : Int) + 5) = (p : Int) + 5) := Lib.hid (i64_id _ (by omega) (by omega))
            have HI1 : Hid ((p : Int) + 5 < (L : Int)) := Lib.hid (by omega)
            have HI2 : Hid ((0 : Int) ≤ (p : Int) + 5) := Lib.hid (by omega)
            have HI3 : Hid (p + 5 < L) := Lib.hid (by omega)
            have HMW : Hid (IntKind.i64.wrap (m : Int) = (m : Int)) := Lib.hid (i64_id _ (by omega) (by omega))
            have HM8 : Hid (IntKind.i64.wrap (8 + (m : Int)) = (m : Int) + 8) := Lib.hid (by rw [i64_id _ (by omega) (by omega)]; omega)
            have HKN : Hid ((k : Int) < (n : Int) ∧ (0 : Int) ≤ (k : Int) ∧ (k : Int) + 1 ≤ (c : Int) ∧ (0 : Int) ≤ (k : Int) + 1) := Lib.hid ⟨by omega, by omega, by omega, by omega⟩
            have HKC : Hid (¬ c = k ∧ ((k : Int) + 1).toNat - k = 1) := Lib.hid ⟨by omega, by omega⟩
            have HK1W : Hid (IntKind.i64.wrap ((k : Int) + 1) = (k : Int) + 1) := Lib.hid (i64_id _ (by omega) (by omega))
            obtain ⟨p2, hp2⟩ : ∃ p2, p + m + 8 = p2 := ⟨_, rfl⟩
            have HPM : Hid (IntKind.i64.wrap ((p : Int) + ((m : Int) + 8)) = (p2 : Int)) := Lib.hid (by rw [i64_id _ (by omega) (by omega)]; omega)
            have HPN : Hid (((l.take (k + 1)).map bytR).flatten.length = p2) := Lib.hid (by rw [hpk, hp2])
            have HS5 : Hid ((p2 : Int) ≤ (cj : Int) ∧ (p : Int) ≤ (p2 : Int) ∧ ¬ cj = p ∧ p2 - p = m + 8 ∧ p ≤ p2) := Lib.hid ⟨by have := HCJ.out; omega, by omega, by have := HCJ.out; omega, by omega, by omega⟩
            have HDC : Hid (∀ W, BAt W gb ob J → Calls Try.prog 15 #[.slice (some ⟨gb, ob + p, none⟩) (m + 8) (cj - p)] W fun x w' => ∃ v, x = .returned (.tuple #[.agg (repCells i e v), .int .i64 0]) ∧ w'.ownsRow W.heap.size 5 1 v d.length (bytesV d) ∧ Below W.heap.size W w') := Lib.hid (fun W hB => by
              have hsd : Slice W (.slice (some ⟨gb, ob + p, none⟩) (m + 8) (cj - p)) (bytR (i, e, d)) := hdrop ▸ ((hB.drop p).take (m + 8)).slice (by rw [hdrop, hlb]) (by have := HCJ.out; omega)
              have := repdec_any _ (m + 8) (cj - p) (bytR (i, e, d)) W hsd hlb (by omega)
              have hbk := re_back (show mayR i e d.length = true from hox)
              have e9 : bytR (i, e, d) = repB i e d := rfl
              rw [e9, hbk.1, hbk.2.1, hbk.2.2.1, hbk.2.2.2] at this
              exact this)
            have c2 : wr.cell? ⟨b, O + 2, none⟩ = some (.slice B m c1) := (hbr.cell (p := ⟨b, O + 2, none⟩) hbw).trans HC2.out
            have hk0 : (0 : Int) ≤ (k : Int) := by omega
            have hk1 : (k : Int) < (n : Int) := by omega
            have hm8 := HM8.out
            have HF1 := Lib.hid (And.intro hbr hba)
            rw [hp]
            clear hx hr hmd hbw a1 a2 a3 a4 hox hol h255 hp hpost hlb hLp hpk hdrop h5 hba hcj2 hs hp2 hbr hsj
            go_upto_region 16 with fail
            clear c2 hk0 hk1 hm8 hO
            have hF0 : Wl [(fun W => Below w.heap.size w W ∧ BAt W gb ob J)] 0 (World.drew _) := ⟨HF1.out.1.drew, HF1.out.2.call (Below.refl _ _).drew⟩
            clear HF1
            refine wp_region_phs [is (.slice (some ⟨gb, ob, none⟩) L cj), is (.int .i64 (L : Int)), is (.int .i64 (p : Int)), is (.int .i64 (s : Int)), is (.int .i64 ((m : Int) + 8)), is (.bool false), is (.bool false), is (.slice (some ⟨gb, ob, none⟩) L cj), is (.int .i64 (p : Int)), is (.int .i64 ((p : Int) + 5)), is (.pointer (some ⟨gb, ob + (p + 5), none⟩)), is (.int .u8 (m : Int)), is (.int .i64 (m : Int)), is (.slice (some ⟨b, o, none⟩) n c), is (.int .i64 (k : Int)), is (.pointer (some ⟨b, O, none⟩)), is (.pointer (some ⟨b, O + 2, none⟩)), is (.slice B m c1), is (.int .i64 (m : Int)), is (.bool false), is (.bool false)] [true, true, true, true, true, true, true, true, true, true, true, true, true, true, true, true, true, true, true, true, true] [(fun W => Below w.heap.size w W ∧ BAt W gb ob J)] [false, false, false, false, false, false, false, false, false, false, false, false, false, false, false, false, false, false, false, false, false] [some 0, some 0, some 0, some 0, some 0, some 0, some 0, some 0, some 0, some 0, some 0, some 0, some 0, some 0, some 0, some 0, some 0, some 0, some 0, some 0, some 0] [some 85, some 86, some 87, some 88, some 89, some 90, some 91, some 92, some 93, some 94, some 95, some 96, some 97, some 98, some 99, some 100, some 101, some 102, some 103, some 104, some 105] 21 0 (fun _ => true) rfl rfl (by kernel_rfl) (by kernel_rfl) (by kernel_rfl) (by kernel_rfl) ?_ ?_ ?_ ?_ ?_ ?_
            · repeat first | exact wok_nil | refine wok_cons (by first | exact fun _ _ h k => ⟨h.1.trans (k.mono h.1.size), h.2.call k⟩) ?_
            · repeat first | exact vok_nil | refine vok_rig (by first | exact fun _ _ _ h => h) ?_ | refine vok_soft (by first | exact fun _ _ _ h _ => h) ?_
            · exact hF0
            · repeat first | exact all_end (by decide) | refine all_cons (by first | exact rfl | exact ⟨rfl, fun _ _ h => Or.inl h⟩ | exact ⟨rfl, fun _ _ h => Or.inr ⟨h, rfl⟩⟩) ?_
            · refine allp_mild 0 rfl rfl rfl (fun a x_ W hout hin hP => ?_) ?_
              · have e5 : a.tmps[5]? = some (.slice (some ⟨gb, ob, none⟩) L cj) := (hout 5 (by kernel_rfl)).trans rfl
                exact does_move rfl e5 ⟨Same.refl _, rfl⟩
              refine allp_mild 0 rfl rfl rfl (fun a x_ W hout hin hP => ?_) ?_
              · have e85 := hin.is 0 85 (by kernel_rfl) (by decide) (by kernel_rfl) (by kernel_rfl) _ rfl
                clear hin hout
                intro K Q hK
                go_simp
                exact hK _ _ ⟨Same.refl _, rfl⟩
              refine allp_mild 0 rfl rfl rfl (fun a x_ W hout hin hP => ?_) ?_
              · have e12 : a.tmps[12]? = some (.int .i64 (p : Int)) := (hout 12 (by kernel_rfl)).trans rfl
                exact does_move rfl e12 ⟨Same.refl _, rfl⟩
              refine allp_mild 0 rfl rfl rfl (fun a x_ W hout hin hP => ?_) ?_
              · have e86 := hin.is 1 86 (by kernel_rfl) (by decide) (by kernel_rfl) (by kernel_rfl) _ rfl
                have e87 := hin.is 2 87 (by kernel_rfl) (by decide) (by kernel_rfl) (by kernel_rfl) _ rfl
                have hw := HSW.out
                clear hin hout
                intro K Q hK
                go_simp
                exact hK _ _ ⟨Same.refl _, rfl⟩
              refine allp_mild 0 rfl rfl rfl (fun a x_ W hout hin hP => ?_) ?_
              · have e14 : a.tmps[14]? = some (.int .i64 ((m : Int) + 8)) := (hout 14 (by kernel_rfl)).trans rfl
                exact does_move rfl e14 ⟨Same.refl _, rfl⟩
              refine allp_mild 0 rfl rfl rfl (fun a x_ W hout hin hP => ?_) ?_
              · have e88 := hin.is 3 88 (by kernel_rfl) (by decide) (by kernel_rfl) (by kernel_rfl) _ rfl
                have e89 := hin.is 4 89 (by kernel_rfl) (by decide) (by kernel_rfl) (by kernel_rfl) _ rfl
                have hw := HSM.out
                clear hin hout
                intro K Q hK
                go_simp
                exact hK _ _ ⟨Same.refl _, rfl⟩
              refine allp_mild 0 rfl rfl rfl (fun a x_ W hout hin hP => ?_) ?_
              · have e90 := hin.is 5 90 (by kernel_rfl) (by decide) (by kernel_rfl) (by kernel_rfl) _ rfl
                exact does_move rfl e90 ⟨Same.refl _, rfl⟩
              refine allp_mild 0 rfl rfl rfl (fun a x_ W hout hin hP => ?_) ?_
              · have e5 : a.tmps[5]? = some (.slice (some ⟨gb, ob, none⟩) L cj) := (hout 5 (by kernel_rfl)).trans rfl
                exact does_move rfl e5 ⟨Same.refl _, rfl⟩
              refine allp_mild 0 rfl rfl rfl (fun a x_ W hout hin hP => ?_) ?_
              · have e12 : a.tmps[12]? = some (.int .i64 (p : Int)) := (hout 12 (by kernel_rfl)).trans rfl
                exact does_move rfl e12 ⟨Same.refl _, rfl⟩
              refine allp_mild 0 rfl rfl rfl (fun a x_ W hout hin hP => ?_) ?_
              · have e93 := hin.is 8 93 (by kernel_rfl) (by decide) (by kernel_rfl) (by kernel_rfl) _ rfl
                have hw := HP5.out
                clear hin hout
                intro K Q hK
                go_simp
                exact hK _ _ ⟨Same.refl _, rfl⟩
              refine allp_mild 0 rfl rfl rfl (fun a x_ W hout hin hP => ?_) ?_
              · have e92 := hin.is 7 92 (by kernel_rfl) (by decide) (by kernel_rfl) (by kernel_rfl) _ rfl
                have e94 := hin.is 9 94 (by kernel_rfl) (by decide) (by kernel_rfl) (by kernel_rfl) _ rfl
                have k1 := HI1.out
                have k2 := HI2.out
                have k3 := HI3.out
                clear hin hout
                intro K Q hK
                go_simp
                exact hK _ _ ⟨Same.refl _, rfl⟩
              refine allp_mild 0 rfl rfl rfl (fun a x_ W hout hin hP => ?_) ?_
              · have e95 := hin.is 10 95 (by kernel_rfl) (by decide) (by kernel_rfl) (by kernel_rfl) _ rfl
                have hc : W.cell? ⟨gb, ob + (p + 5), none⟩ = some (.int .u8 (m : Int)) := by have h := hP.2.get (p + 5) (by rw [HJL.out]; have := HI3.out; omega); rw [HM5.out] at h; exact h
                clear hP
                clear hin hout
                intro K Q hK
                go_simp
                exact hK _ _ ⟨Same.refl _, rfl⟩
              refine allp_mild 0 rfl rfl rfl (fun a x_ W hout hin hP => ?_) ?_
              · have e96 := hin.is 11 96 (by kernel_rfl) (by decide) (by kernel_rfl) (by kernel_rfl) _ rfl
                have hw := HMW.out
                clear hin hout
                intro K Q hK
                go_simp
                exact hK _ _ ⟨Same.refl _, rfl⟩
              refine allp_mild 0 rfl rfl rfl (fun a x_ W hout hin hP => ?_) ?_
              · have e0 : a.tmps[0]? = some (.slice (some ⟨b, o, none⟩) n c) := (hout 0 (by kernel_rfl)).trans rfl
                exact does_move rfl e0 ⟨Same.refl _, rfl⟩
              refine allp_mild 0 rfl rfl rfl (fun a x_ W hout hin hP => ?_) ?_
              · have e13 : a.tmps[13]? = some (.int .i64 (k : Int)) := (hout 13 (by kernel_rfl)).trans rfl
                exact does_move rfl e13 ⟨Same.refl _, rfl⟩
              refine allp_mild 0 rfl rfl rfl (fun a x_ W hout hin hP => ?_) ?_
              · have e98 := hin.is 13 98 (by kernel_rfl) (by decide) (by kernel_rfl) (by kernel_rfl) _ rfl
                have e99 := hin.is 14 99 (by kernel_rfl) (by decide) (by kernel_rfl) (by kernel_rfl) _ rfl
                have hO := HO.out
                have k1 := HKN.out
                clear hin hout
                intro K Q hK
                go_simp
                exact hK _ _ ⟨Same.refl _, rfl⟩
              refine allp_mild 0 rfl rfl rfl (fun a x_ W hout hin hP => ?_) ?_
              · have e100 := hin.is 15 100 (by kernel_rfl) (by decide) (by kernel_rfl) (by kernel_rfl) _ rfl
                clear hin hout
                intro K Q hK
                go_simp
                exact hK _ _ ⟨Same.refl _, rfl⟩
              refine allp_mild 0 rfl rfl rfl (fun a x_ W hout hin hP => ?_) ?_
              · have e101 := hin.is 16 101 (by kernel_rfl) (by decide) (by kernel_rfl) (by kernel_rfl) _ rfl
                have hc : W.cell? ⟨b, O + 2, none⟩ = some (.slice B m c1) := (hP.1.cell (p := ⟨b, O + 2, none⟩) HW.out).trans HC2.out
                clear hP
                clear hin hout
                intro K Q hK
                go_simp
                exact hK _ _ ⟨Same.refl _, rfl⟩
              refine allp_mild 0 rfl rfl rfl (fun a x_ W hout hin hP => ?_) ?_
              · have e102 := hin.is 17 102 (by kernel_rfl) (by decide) (by kernel_rfl) (by kernel_rfl) _ rfl
                clear hin hout
                intro K Q hK
                go_simp
                exact hK _ _ ⟨Same.refl _, rfl⟩
              refine allp_mild 0 rfl rfl rfl (fun a x_ W hout hin hP => ?_) ?_
              · have e97 := hin.is 12 97 (by kernel_rfl) (by decide) (by kernel_rfl) (by kernel_rfl) _ rfl
                have e103 := hin.is 18 103 (by kernel_rfl) (by decide) (by kernel_rfl) (by kernel_rfl) _ rfl
                clear hin hout
                intro K Q hK
                go_simp
                exact hK _ _ ⟨Same.refl _, rfl⟩
              refine allp_mild 0 rfl rfl rfl (fun a x_ W hout hin hP => ?_) ?_
              · have e91 := hin.is 6 91 (by kernel_rfl) (by decide) (by kernel_rfl) (by kernel_rfl) _ rfl
                have e104 := hin.is 19 104 (by kernel_rfl) (by decide) (by kernel_rfl) (by kernel_rfl) _ rfl
                exact does_pick rfl e91 ⟨Same.refl _, eval_of_get e104⟩
              exact all_end (by decide)
            · intro x_ W hP hV
              have hx : x_ 20 = .bool false := hV 20 (by decide) (.inl (by kernel_rfl))
              have HP1 := Lib.hid hP
              clear hV hP
              simp only [putL, Act.put, List.setIfInBounds_toArray, List.set_cons_succ, List.set_cons_zero, hx]
              simp only [Nat.zero_add, Nat.reduceAdd]
              refine wpAnyH_done (by kernel_rfl) ?_ _
              clear hx
              have CD := HDC.out W (HP1.out.2)
              obtain ⟨k1, k2, k3, k4, k5⟩ := HS5.out
              have hpm := HPM.out
              go_wp2_with fail
              refine CD.mono ?_
              rintro x w8 ⟨v6, rfl, ho6, hb6⟩
              have HB8 := Lib.hid (HP1.out.1.trans (hb6.mono HP1.out.1.size))
              have HBA8 := Lib.hid (HP1.out.2.call hb6)
              have hn6 := own_nil ho6
              have hs6 := own_slice ho6
              obtain ⟨A6, c6, rfl, _⟩ := own_slice_form ho6
              rw [HDM.out] at hs6 hn6 ⊢
              have HRA6 : Hid (RepAt w8 [.int .i64 i, .int .i64 e, .slice A6 m c6] (i, e, d)) := Lib.hid (rep_at hs6 (fun h => hn6 _ _ (by rw [h])) (by have := HM255.out; unfold maxLen; omega) HI4.out.1 HI4.out.2.1 HI4.out.2.2.1 HI4.out.2.2.2)
              clear ho6 hs6 hn6 hb6 CD k1 k2 k3 k4 k5 hpm HP1
              have HT := St.nil w8 noF
              go_upto_region 19 with (first | ((with_reducible refine wpList_plain ?_ ?_); exact rfl; intro KK hKK; refine wp_st_alloc HT 31 (repCells 0 0 (.slice none 0 0)) rfl (.agg (repCells 0 0 (.slice none 0 0))) (by kernel_rfl) (rfl) (fun g15 W21 HSx => hKK _ _ ?_); clear hKK KK HT; have HT : St w8 noF [⟨g15, 31, repCells 0 0 (.slice none 0 0)⟩] W21 := HSx; clear HSx) | ((with_reducible refine wpList_plain ?_ ?_); exact rfl; intro KK hKK; refine wp_st_store HT 0 0 31 (.tmp 15) (.tmp 114) rfl rfl rfl (.agg (repCells i e (.slice A6 m c6))) rfl (by exact size_rep) (Nat.le_refl _) (rep_one ..) (repCells i e (.slice A6 m c6)) (by exact spl_agg _ _ _ rfl rfl) (fun W22 HSx => hKK _ _ ?_); clear hKK KK HT; have HT : St w8 noF [⟨g15, 31, repCells i e (.slice A6 m c6)⟩] W22 := HSx; clear HSx))
              have hF0 : Wl [(fun W => Below w.heap.size w W ∧ BAt W gb ob J ∧ Row W g15 31 (repCells i e (.slice A6 m c6)) ∧ RepAt W [.int .i64 i, .int .i64 e, .slice A6 m c6] (i, e, d))] 0 (World.drew _) := ⟨(HB8.out.trans (HT.below.mono HB8.out.size)).drew, (HBA8.out.call HT.below).call (Below.refl _ _).drew, (HT.row 0 rfl).call (Below.refl _ _).drew, (HRA6.out.below HT.below (Nat.le_refl _)).below (Below.refl _ _).drew (Nat.le_refl _)⟩
              clear HT HB8 HBA8 HRA6
              refine wp_region_phs [is (.int .i64 0), is (.bool false), is (.bool false), is (.agg #[.int .i64 i, .int .i64 e, .slice A6 m c6]), (fun v W => ∃ g, v = Value.slice (some ⟨g, 0, none⟩) 1 1 ∧ RepsAt W v [(i, e, d)]), is (.slice (some ⟨b, o, none⟩) n c), is (.int .i64 (k : Int)), is (.int .i64 (k : Int)), is (.int .i64 ((k : Int) + 1)), is (.slice (some ⟨b, O, none⟩) 1 (c - k)), is (.bool true), is (.bool false), is (.bool false)] [true, true, true, true, false, true, true, true, true, true, true, true, true] [(fun W => Below w.heap.size w W ∧ BAt W gb ob J ∧ Row W g15 31 (repCells i e (.slice A6 m c6)) ∧ RepAt W [.int .i64 i, .int .i64 e, .slice A6 m c6] (i, e, d))] [false, false, false, false, false, false, false, false, false, false, false, false, false] [some 0, some 0, some 0, some 0, some 0, some 0, some 0, some 0, some 0, some 0, some 0, some 0, some 0] [some 116, some 117, some 118, some 119, some 120, some 121, some 122, some 123, some 124, some 125, some 126, some 127, some 128] 13 0 (fun _ => true) rfl rfl (by kernel_rfl) (by kernel_rfl) (by kernel_rfl) (by kernel_rfl) ?_ ?_ ?_ ?_ ?_ ?_
              · repeat first | exact wok_nil | refine wok_cons (by first | exact fun _ _ h k => ⟨h.1.trans (k.mono h.1.size), h.2.1.call k, h.2.2.1.call k, h.2.2.2.below k (Nat.le_refl _)⟩) ?_
              · repeat first | exact vok_nil | refine vok_rig (by first | exact fun _ _ _ h => h) ?_ | refine vok_soft (by first | exact fun _ _ _ h _ => h | exact fun _ _ _ h k => ⟨h.choose, h.choose_spec.1, h.choose_spec.2.below k (Nat.le_refl _)⟩) ?_
              · exact hF0
              · repeat first | exact all_end (by decide) | refine all_cons (by first | exact rfl | exact ⟨rfl, fun _ _ h => Or.inl h⟩ | exact ⟨rfl, fun _ _ h => Or.inr ⟨h, rfl⟩⟩) ?_
              · refine allp_mild 0 rfl rfl rfl (fun a x_ W hout hin hP => ?_) ?_
                · have e16 : a.tmps[16]? = some (.int .i64 0) := (hout 16 (by kernel_rfl)).trans rfl
                  exact does_move rfl e16 ⟨Same.refl _, rfl⟩
                refine allp_mild 0 rfl rfl rfl (fun a x_ W hout hin hP => ?_) ?_
                · have e116 := hin.is 0 116 (by kernel_rfl) (by decide) (by kernel_rfl) (by kernel_rfl) _ rfl
                  clear hin hout
                  intro K Q hK
                  go_simp
                  exact hK _ _ ⟨Same.refl _, rfl⟩
                refine allp_mild 0 rfl rfl rfl (fun a x_ W hout hin hP => ?_) ?_
                · have e117 := hin.is 1 117 (by kernel_rfl) (by decide) (by kernel_rfl) (by kernel_rfl) _ rfl
                  exact does_move rfl e117 ⟨Same.refl _, rfl⟩
                refine allp_mild 0 rfl rfl rfl (fun a x_ W hout hin hP => ?_) ?_
                · have e15 : a.tmps[15]? = some (.pointer (some ⟨g15, 0, none⟩)) := (hout 15 (by kernel_rfl)).trans rfl
                  have hr := hP.2.2.1
                  clear hin hout hP
                  intro K Q hK
                  exact wp_load_row 31 (.tmp 15) rfl g15 (eval_of_get e15) 31 (repCells i e (.slice A6 m c6)) (0, 0) _ hr Try.underlying31 rfl (by exact size_rep) (hK _ _ ⟨Same.refl _, rfl⟩)
                refine allp_mild 0 rfl rfl rfl (fun a x_ W hout hin hP => ?_) ?_
                · have e119 := hin.is 3 119 (by kernel_rfl) (by decide) (by kernel_rfl) (by kernel_rfl) _ rfl
                  have hr := hP.2.2.2
                  clear hP
                  clear hin hout
                  intro K Q hK
                  go_simp
                  exact hK _ _ ⟨Same.alloc _ _, _, rfl, reps_one hr⟩
                refine allp_mild 0 rfl rfl rfl (fun a x_ W hout hin hP => ?_) ?_
                · have e0 : a.tmps[0]? = some (.slice (some ⟨b, o, none⟩) n c) := (hout 0 (by kernel_rfl)).trans rfl
                  exact does_move rfl e0 ⟨Same.refl _, rfl⟩
                refine allp_mild 0 rfl rfl rfl (fun a x_ W hout hin hP => ?_) ?_
                · have e13 : a.tmps[13]? = some (.int .i64 (k : Int)) := (hout 13 (by kernel_rfl)).trans rfl
                  exact does_move rfl e13 ⟨Same.refl _, rfl⟩
                refine allp_mild 0 rfl rfl rfl (fun a x_ W hout hin hP => ?_) ?_
                · have e13 : a.tmps[13]? = some (.int .i64 (k : Int)) := (hout 13 (by kernel_rfl)).trans rfl
                  exact does_move rfl e13 ⟨Same.refl _, rfl⟩
                refine allp_mild 0 rfl rfl rfl (fun a x_ W hout hin hP => ?_) ?_
                · have e123 := hin.is 7 123 (by kernel_rfl) (by decide) (by kernel_rfl) (by kernel_rfl) _ rfl
                  have hw := HK1W.out
                  clear hin hout
                  intro K Q hK
                  go_simp
                  exact hK _ _ ⟨Same.refl _, rfl⟩
                refine allp_mild 0 rfl rfl rfl (fun a x_ W hout hin hP => ?_) ?_
                · have e121 := hin.is 5 121 (by kernel_rfl) (by decide) (by kernel_rfl) (by kernel_rfl) _ rfl
                  have e122 := hin.is 6 122 (by kernel_rfl) (by decide) (by kernel_rfl) (by kernel_rfl) _ rfl
                  have e124 := hin.is 8 124 (by kernel_rfl) (by decide) (by kernel_rfl) (by kernel_rfl) _ rfl
                  have k1 := HKN.out
                  have k2 := HKC.out
                  have hO := HO.out
                  clear hin hout
                  intro K Q hK
                  go_simp
                  exact hK _ _ ⟨Same.refl _, rfl⟩
                refine allp_mild 0 rfl rfl rfl (fun a x_ W hout hin hP => ?_) ?_
                · obtain ⟨v120, e120, hv120⟩ := hin.get 4 120 (by kernel_rfl) (by decide) (by kernel_rfl) (.inr ⟨rfl, by kernel_rfl⟩)
                  have e125 := hin.is 9 125 (by kernel_rfl) (by decide) (by kernel_rfl) (by kernel_rfl) _ rfl
                  obtain ⟨g, rfl, hr4⟩ := hv120
                  have C := keepreps_any [(i, e, d)] [(i, e, d)] (some ⟨g, 0, none⟩) (some ⟨b, O, none⟩) 1 1 1 (c - k) W hr4 (HR1.out.below hP.1 (Nat.le_refl _)) (by decide) (by decide)
                  rw [decide_eq_true rfl] at C
                  clear hP hr4
                  clear hin hout
                  intro K Q hK
                  go_simp
                  refine C.mono ?_
                  rintro e W' ⟨rfl, hb⟩
                  exact hK _ _ ⟨hb, rfl⟩
                refine allp_mild 0 rfl rfl rfl (fun a x_ W hout hin hP => ?_) ?_
                · have e126 := hin.is 10 126 (by kernel_rfl) (by decide) (by kernel_rfl) (by kernel_rfl) _ rfl
                  exact does_not rfl e126 ⟨Same.refl _, rfl⟩
                refine allp_mild 0 rfl rfl rfl (fun a x_ W hout hin hP => ?_) ?_
                · have e118 := hin.is 2 118 (by kernel_rfl) (by decide) (by kernel_rfl) (by kernel_rfl) _ rfl
                  have e127 := hin.is 11 127 (by kernel_rfl) (by decide) (by kernel_rfl) (by kernel_rfl) _ rfl
                  exact does_pick rfl e118 ⟨Same.refl _, eval_of_get e127⟩
                exact all_end (by decide)
              · intro x_ W hP hV
                have hx : x_ 12 = .bool false := hV 12 (by decide) (.inl (by kernel_rfl))
                have HP1 := Lib.hid hP
                clear hV hP
                simp only [putL, Act.put, List.setIfInBounds_toArray, List.set_cons_succ, List.set_cons_zero, hx]
                simp only [Nat.zero_add, Nat.reduceAdd]
                refine wpAnyH_done (by kernel_rfl) ?_ _
                clear hx
                have hpm := HPM.out
                have hk1 := HK1W.out
                go_wp2_with fail
                exact ⟨⟨k + 1, by omega, by rw [HPN.out], by go_num, HP1.out.1, HP1.out.2.1.slice HJL.out HCJ.out⟩, by simp [intOf]; omega⟩
          · obtain rfl : k = n := by omega
            have hPL : ((l.take k).map bytR).flatten.length = L := by rw [List.take_of_length_le (by rw [HLN.out]; exact Nat.le_refl _), HJE.out, HJL.out]
            rw [hPL]
            have HBR := Lib.hid hbr
            clear hsj hbr hPL
            go_wp2_with fail
            refine (rpwakes_any _).mono ?_
            rintro x9 w99 ⟨rfl, hb9⟩
            go_wp2_with fail
            go_ret
            exact ⟨rfl, HBR.out.trans (hb9.mono HBR.out.size)⟩

end Go.Proofs.Ytamofhjnpahamaa
