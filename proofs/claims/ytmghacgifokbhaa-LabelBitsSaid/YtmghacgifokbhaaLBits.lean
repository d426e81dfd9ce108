/- The statement LabelBits: its walk. -/
import Derived.Test.YtmghacgifokbhaaLBitsP
set_option maxRecDepth 4000
namespace Go.Proofs.Ytmghacgifokbhaa
open Go Go.RowKit
attribute [local go_sem] or_hd
theorem or_hd0 (x : BitVec 16) : bits .or .u16 (hd x) 0 = hd x := (or_hd x 0#16).trans (by rw [BitVec.or_zero])
set_option maxRecDepth 20000 in
set_option maxHeartbeats 800000 in
theorem lbits_walk (D : LabelOps) (A : Option Addr) (c : Nat) (l : List (Int × List (BitVec 8))) (m : BitVec 8) (w : World) (hv : PutsAt w (.slice A l.length c) l) :
    Calls Try.prog 7 #[.slice A l.length c, .int .u8 (bd m)] w fun e w' => e = .returned (.bool true) ∧ Below w.heap.size w w' := by
  have HV := Lib.hid hv
  obtain ⟨n, hn⟩ : ∃ n, l.length = n := ⟨_, rfl⟩
  have HN := Lib.hid hn
  obtain ⟨G, hG⟩ : ∃ G : Nat → BitVec 16, ∀ k, bitsOf ((l.map (·.1)).take k) = G k := ⟨_, fun _ => rfl⟩
  have HG1 : Hid (∀ k x, l[k]? = some x → G (k + 1) = G k ||| bit1 x.1) := Lib.hid fun k x hx => by
    obtain ⟨hk, rfl⟩ := List.getElem?_eq_some_iff.1 hx
    rw [← hG, ← hG, bitsOf_take _ k (by simpa using hk)]; simp
  have HG0 : Hid (G 0 = 0#16) := Lib.hid (by rw [← hG]; rfl)
  have HGN : Hid (bitsOf (l.map (·.1)) = G n) := Lib.hid (by rw [← hG, ← hn]; congr 1; exact (List.take_of_length_le (by simp)).symm)
  have HGK : Hid (∀ k, bitsOf ((l.take k).map (·.1)) = G k) := Lib.hid fun k => by rw [← hG, List.map_take]
  rw [hn]
  clear hG hn hv
  obtain ⟨z, hz, hz0, hz1⟩ : ∃ z : Int, bd m = z ∧ 0 ≤ z ∧ z < 256 := ⟨_, rfl, bd_lo m, bd_hi m⟩
  rw [hz]
  go_enter Try.func7, Try.ntmps7
  by_cases h60 : (60 : Int) < (n : Int)
  · have hd : decide ((60 : Int) < (n : Int)) = true := decide_eq_true h60
    go_wp2_with fail
    refine (lwakes_any D _).mono ?_
    rintro e W9 ⟨rfl, hb9⟩
    go_wp2_with fail
    go_ret
    exact ⟨rfl, hb9⟩
  · have hd : decide ((60 : Int) < (n : Int)) = false := decide_eq_false h60
    obtain ⟨kk, hkk, hkn⟩ : ∃ kk : Nat, z.tmod ((n : Int) + 1) = (kk : Int) ∧ kk ≤ n := by
      have e : z.tmod ((n : Int) + 1) = z % ((n : Int) + 1) := Int.tmod_eq_emod_of_nonneg hz0
      have h1 := Int.emod_nonneg z (show ((n : Int) + 1) ≠ 0 by omega)
      have h2 := Int.emod_lt_of_pos z (show 0 < ((n : Int) + 1) by omega)
      exact ⟨(z % ((n : Int) + 1)).toNat, by omega, by omega⟩
    go_wp2_with fail
    clear hkk hz hz0 hz1 hd
    have hnc : n ≤ c := by
      obtain ⟨A', c', e, hc, _⟩ := HV.out
      cases e
      rw [HN.out] at hc; exact hc
    obtain ⟨A', hA'⟩ : ∃ A', (if c = kk then A else A.map (·.add (kk * 33))) = A' := ⟨_, rfl⟩
    have HT := puts_take HV.out kk (by rw [HN.out]; exact hkn)
    have HDR := puts_drop (B := A') (d := c - kk) HV.out kk (by rw [HN.out]; omega) (fun b o e hlt => by
      rw [HN.out] at hlt
      rw [← hA', if_neg (by omega), e]; simp [Addr.add])
    obtain ⟨Y, hY⟩ : ∃ Y, bitsOf ((l.drop kk).map (·.1)) = Y := ⟨_, rfl⟩
    have hGk := HGK.out kk
    have HY : Hid (hd (G kk ||| Y) = hd (G n)) := Lib.hid (by rw [← hGk, ← hY, ← HGN.out, List.map_take, List.map_drop, bitsOf_cut])
    have C1 : Hid (∀ W, Below w.heap.size w W → Calls Try.prog 15 #[.slice A n c] W fun e W' => e = .returned (.int .u16 (hd (G n))) ∧ Below W.heap.size W W') := Lib.hid fun W hW => by
      have := D.bits l (.slice A l.length c) W (HV.out.below hW (Nat.le_refl _)) (by rw [HN.out]; omega)
      rw [HN.out, HGN.out] at this; exact this
    have C2 : Hid (∀ W, Below w.heap.size w W → Calls Try.prog 15 #[.slice A kk c] W fun e W' => e = .returned (.int .u16 (hd (G kk))) ∧ Below W.heap.size W W') := Lib.hid fun W hW => by
      have := D.bits (l.take kk) (.slice A kk c) W (HT.below hW (Nat.le_refl _)) (by rw [List.length_take, HN.out]; omega)
      rw [hGk] at this; exact this
    rw [HN.out] at HDR
    have C3 : Hid (∀ W, Below w.heap.size w W → Calls Try.prog 15 #[.slice A' (n - kk) (c - kk)] W fun e W' => e = .returned (.int .u16 (hd Y)) ∧ Below W.heap.size W W') := Lib.hid fun W hW => by
      have := D.bits (l.drop kk) (.slice A' (n - kk) (c - kk)) W (HDR.below hW (Nat.le_refl _)) (by rw [List.length_drop, HN.out]; omega)
      rw [hY] at this; exact this
    have C4 : Hid (∀ W, Below w.heap.size w W → Calls Try.prog 15 #[.slice none 0 0] W fun e W' => e = .returned (.int .u16 (hd 0#16)) ∧ Below W.heap.size W W') := Lib.hid fun W _ => D.bits [] (.slice none 0 0) W (puts_nil _ _ _) (by decide)
    have hk0 : (0 : Int) ≤ (kk : Int) := by omega
    have hk2 : (kk : Int) ≤ (n : Int) := by omega
    have hkc : (kk : Int) ≤ (c : Int) := by omega
    have hlc : (n : Int) ≤ (c : Int) := by omega
    clear HT HDR hY hGk
    go_loopw [6, 7] (fun v i wr => ∃ k : Nat, k ≤ n ∧ i = .int .i64 k ∧ v = .int .u16 (hd (G k)) ∧ Below w.heap.size w wr) (fun _ i _ => n - (intOf i).toNat)
    case atStart => exact ⟨0, by omega, rfl, by rw [HG0.out]; rfl, Below.refl _ _⟩
    case round =>
      obtain ⟨k, hk, rfl, rfl, hB⟩ := hrel
      have HB := Lib.hid hB
      by_cases hlt : k < n
      · obtain ⟨⟨i, q⟩, hx⟩ : ∃ x, l[k]? = some x := ⟨_, List.getElem?_eq_getElem (by rw [HN.out]; exact hlt)⟩
        have HP := HV.out.below hB (Nat.le_refl _)
        obtain ⟨A2, c2, e, hc, hb, h6⟩ := HP
        cases e
        obtain ⟨b, o, rfl, h5, h7⟩ := h6 (by intro e; rw [e] at hx; simp at hx)
        have hr := h7 k _ hx
        have ci : wr.cell? ⟨b, o + k * 33, none⟩ = some (.int .i64 i) := by have := hr 0 _ rfl; simpa using this
        have hbd := hb (i, q) (List.mem_of_getElem? hx)
        have HD := Lib.hid (HG1.out k _ hx)
        have hk0' : (0 : Int) ≤ (k : Int) := by omega
        have hk1 : (k : Int) < (n : Int) := by omega
        clear hx h6 h7 hc hb
        go_wp2_with (first
          | (refine wpList_plain rfl (fun _ hK => ?_); refine wp_load_mid 50 (.tmp 28) rfl b (o + k * 33) rfl (pcell (i, q)) _ hr Try.underlying50 rfl (by rw [len_pcell hbd.1]; rfl) ?_; refine hK _ _ ?_; clear hK)
          | (refine wpList_plain rfl (fun _ hK => ?_); refine wp_buildOne 29 50 (.tmp 29) rfl (pcell (i, q)).toArray _ 33 rfl Try.underlying29 rfl (by simp [len_pcell hbd.1]) (by decide) (by decide) ?_; refine hK _ _ ?_; clear hK))
        have C := D.bits [(i, q)] (.slice (some ⟨wr.heap.size, 0, none⟩) 1 1) _ (puts_one (Row.fresh wr 50 (pcell (i, q)).toArray) hbd) (by simp)
        rw [show bitsOf ([(i, q)].map (·.1)) = bit1 i from bitsOf_one i] at C
        refine C.mono ?_
        rintro e w3 ⟨rfl, hb3⟩
        have hbA := (Below.refl wr.heap.size wr).alloc (Nat.le_refl _) (.cells (pcell (i, q)).toArray 50)
        have hb3' := hbA.trans (hb3.mono hbA.size)
        have HB3 := Lib.hid (HB.out.trans (hb3'.mono HB.out.size))
        have ci : w3.cell? ⟨b, o + k * 33, none⟩ = some (.int .i64 i) := (hb3'.cell (p := ⟨b, o + k * 33, none⟩) h5).trans ci
        clear C hb3 hb3' hbA hr hB
        by_cases h0 : 0 ≤ i
        · by_cases h12 : i < 12
          · have hd3 : decide (0 ≤ i) = true := decide_eq_true h0
            have hd4 : decide (i < 12) = true := decide_eq_true h12
            have hb1 := bit1_eq i h0 h12
            have hne := bit1_in i h0 h12
            have hne' : (hd (bit1 i) != 0) = true := bne_iff_ne.2 hne
            go_wp2_with fail
            exact ⟨⟨k + 1, by omega, by go_num, by rw [HD.out], HB3.out⟩, by simp [intOf] <;> omega⟩
          · have hd3 : decide (0 ≤ i) = true := decide_eq_true h0
            have hd4 : decide (i < 12) = false := decide_eq_false h12
            have hz := bit1_out i (fun h => h12 h.2)
            have HZ := Lib.hid hz
            rw [hz]
            go_wp2_with fail
            exact ⟨⟨k + 1, by omega, by go_num, by rw [HD.out, HZ.out, BitVec.or_zero, or_hd0], HB3.out⟩, by simp [intOf] <;> omega⟩
        · have hd3 : decide (0 ≤ i) = false := decide_eq_false h0
          have hz := bit1_out i (fun h => h0 h.1)
          have HZ := Lib.hid hz
          rw [hz]
          go_wp2_with fail
          exact ⟨⟨k + 1, by omega, by go_num, by rw [HD.out, HZ.out, BitVec.or_zero, or_hd0], HB3.out⟩, by simp [intOf] <;> omega⟩
      · obtain rfl : n = k := by omega
        go_wp2_with fail
        have hF0 : Wl [fun W => Below w.heap.size w W] 0 wr.drew := HB.out.drew
        refine wp_region_phs [is (.slice A n c), is (.int .u16 (hd (G n))), is (.int .u16 (hd (G n))), is (.bool true), is (.bool true), is (.slice A n c), is (.int .i64 (kk : Int)), is (.slice A kk c), is (.int .u16 (hd (G kk))), is (.slice A n c), is (.int .i64 (kk : Int)), is (.slice A' (n - kk) (c - kk)), is (.int .u16 (hd Y)), is (.int .u16 (hd (G n))), is (.int .u16 (hd (G n))), is (.bool true), is (.bool true), is (.bool true), is (.int .u16 (hd 0#16)), is (.bool true), is (.bool true), is (.bool true), is (.bool true), is (.bool true), is (.bool true)] [true, true, true, true, true, true, true, true, true, true, true, true, true, true, true, true, true, true, true, true, true, true, true, true, true] [(fun W => Below w.heap.size w W)] [false, false, false, false, false, false, false, false, false, false, false, false, false, false, false, false, false, false, false, false, false, false, false, false, false] [some 0, some 0, some 0, some 0, some 0, some 0, some 0, some 0, some 0, some 0, some 0, some 0, some 0, some 0, some 0, some 0, some 0, some 0, some 0, some 0, some 0, some 0, some 0, some 0, some 0] [some 67, some 68, some 69, some 70, some 71, some 72, some 73, some 74, some 75, some 76, some 77, some 78, some 79, some 80, some 81, some 82, some 83, some 84, some 85, some 86, some 87, some 88, some 89, some 90, some 4] 25 0 (fun _ => true) rfl rfl (by kernel_rfl) (by kernel_rfl) (by kernel_rfl) (by kernel_rfl) ?_ ?_ ?_ ?_ ?_ ?_
        · repeat first | exact wok_nil | refine wok_cons (by first | exact fun _ _ h k => h.trans (k.mono h.size)) ?_
        · repeat first | exact vok_nil | refine vok_rig (by first | exact fun _ _ _ h => h) ?_ | refine vok_soft (by first | exact fun _ _ _ h _ => h) ?_
        · exact hF0
        · repeat first | exact all_end (by decide) | refine all_cons (by first | exact rfl | exact ⟨rfl, fun _ _ h => Or.inl h⟩ | exact ⟨rfl, fun _ _ h => Or.inr ⟨h, rfl⟩⟩) ?_
        · refine allp_mild 0 rfl rfl rfl (fun a x W hout hin hP => ?_) ?_
          · have e0 : a.tmps[0]? = some (.slice A n c) := (hout 0 (by kernel_rfl)).trans rfl
            exact does_move rfl e0 ⟨Same.refl _, rfl⟩
          refine allp_mild 0 rfl rfl rfl (fun a x W hout hin hP => ?_) ?_
          · have e67 := hin.is 0 67 (by kernel_rfl) (by decide) (by kernel_rfl) (by kernel_rfl) _ rfl
            have C := (C1.out) W hP
            clear hP
            clear hin hout
            intro K Q hK
            go_simp
            refine C.mono ?_
            rintro e W' ⟨rfl, hb⟩
            exact hK _ _ ⟨hb, rfl⟩
          refine allp_mild 0 rfl rfl rfl (fun a x W hout hin hP => ?_) ?_
          · have e6 : a.tmps[6]? = some (.int .u16 (hd (G n))) := (hout 6 (by kernel_rfl)).trans rfl
            exact does_move rfl e6 ⟨Same.refl _, rfl⟩
          refine allp_mild 0 rfl rfl rfl (fun a x W hout hin hP => ?_) ?_
          · have e68 := hin.is 1 68 (by kernel_rfl) (by decide) (by kernel_rfl) (by kernel_rfl) _ rfl
            have e69 := hin.is 2 69 (by kernel_rfl) (by decide) (by kernel_rfl) (by kernel_rfl) _ rfl
            clear hin hout
            intro K Q hK
            go_simp
            exact hK _ _ ⟨Same.refl _, rfl⟩
          refine allp_mild 0 rfl rfl rfl (fun a x W hout hin hP => ?_) ?_
          · have e70 := hin.is 3 70 (by kernel_rfl) (by decide) (by kernel_rfl) (by kernel_rfl) _ rfl
            exact does_move rfl e70 ⟨Same.refl _, rfl⟩
          refine allp_mild 0 rfl rfl rfl (fun a x W hout hin hP => ?_) ?_
          · have e0 : a.tmps[0]? = some (.slice A n c) := (hout 0 (by kernel_rfl)).trans rfl
            exact does_move rfl e0 ⟨Same.refl _, rfl⟩
          refine allp_mild 0 rfl rfl rfl (fun a x W hout hin hP => ?_) ?_
          · have e5 : a.tmps[5]? = some (.int .i64 (kk : Int)) := (hout 5 (by kernel_rfl)).trans rfl
            exact does_move rfl e5 ⟨Same.refl _, rfl⟩
          refine allp_mild 0 rfl rfl rfl (fun a x W hout hin hP => ?_) ?_
          · have e72 := hin.is 5 72 (by kernel_rfl) (by decide) (by kernel_rfl) (by kernel_rfl) _ rfl
            have e73 := hin.is 6 73 (by kernel_rfl) (by decide) (by kernel_rfl) (by kernel_rfl) _ rfl
            clear hin hout
            intro K Q hK
            go_simp
            exact hK _ _ ⟨Same.refl _, rfl⟩
          refine allp_mild 0 rfl rfl rfl (fun a x W hout hin hP => ?_) ?_
          · have e74 := hin.is 7 74 (by kernel_rfl) (by decide) (by kernel_rfl) (by kernel_rfl) _ rfl
            have C := (C2.out) W hP
            clear hP
            clear hin hout
            intro K Q hK
            go_simp
            refine C.mono ?_
            rintro e W' ⟨rfl, hb⟩
            exact hK _ _ ⟨hb, rfl⟩
          refine allp_mild 0 rfl rfl rfl (fun a x W hout hin hP => ?_) ?_
          · have e0 : a.tmps[0]? = some (.slice A n c) := (hout 0 (by kernel_rfl)).trans rfl
            exact does_move rfl e0 ⟨Same.refl _, rfl⟩
          refine allp_mild 0 rfl rfl rfl (fun a x W hout hin hP => ?_) ?_
          · have e5 : a.tmps[5]? = some (.int .i64 (kk : Int)) := (hout 5 (by kernel_rfl)).trans rfl
            exact does_move rfl e5 ⟨Same.refl _, rfl⟩
          refine allp_mild 0 rfl rfl rfl (fun a x W hout hin hP => ?_) ?_
          · have e76 := hin.is 9 76 (by kernel_rfl) (by decide) (by kernel_rfl) (by kernel_rfl) _ rfl
            have e77 := hin.is 10 77 (by kernel_rfl) (by decide) (by kernel_rfl) (by kernel_rfl) _ rfl
            have hA0 := hA'
            clear hin hout
            intro K Q hK
            go_simp
            exact hK _ _ ⟨Same.refl _, rfl⟩
          refine allp_mild 0 rfl rfl rfl (fun a x W hout hin hP => ?_) ?_
          · have e78 := hin.is 11 78 (by kernel_rfl) (by decide) (by kernel_rfl) (by kernel_rfl) _ rfl
            have C := (C3.out) W hP
            clear hP
            clear hin hout
            intro K Q hK
            go_simp
            refine C.mono ?_
            rintro e W' ⟨rfl, hb⟩
            exact hK _ _ ⟨hb, rfl⟩
          refine allp_mild 0 rfl rfl rfl (fun a x W hout hin hP => ?_) ?_
          · have e75 := hin.is 8 75 (by kernel_rfl) (by decide) (by kernel_rfl) (by kernel_rfl) _ rfl
            have e79 := hin.is 12 79 (by kernel_rfl) (by decide) (by kernel_rfl) (by kernel_rfl) _ rfl
            have hY0 := HY.out
            clear hin hout
            intro K Q hK
            go_simp
            exact hK _ _ ⟨Same.refl _, rfl⟩
          refine allp_mild 0 rfl rfl rfl (fun a x W hout hin hP => ?_) ?_
          · have e6 : a.tmps[6]? = some (.int .u16 (hd (G n))) := (hout 6 (by kernel_rfl)).trans rfl
            exact does_move rfl e6 ⟨Same.refl _, rfl⟩
          refine allp_mild 0 rfl rfl rfl (fun a x W hout hin hP => ?_) ?_
          · have e80 := hin.is 13 80 (by kernel_rfl) (by decide) (by kernel_rfl) (by kernel_rfl) _ rfl
            have e81 := hin.is 14 81 (by kernel_rfl) (by decide) (by kernel_rfl) (by kernel_rfl) _ rfl
            clear hin hout
            intro K Q hK
            go_simp
            exact hK _ _ ⟨Same.refl _, rfl⟩
          refine allp_mild 0 rfl rfl rfl (fun a x W hout hin hP => ?_) ?_
          · have e71 := hin.is 4 71 (by kernel_rfl) (by decide) (by kernel_rfl) (by kernel_rfl) _ rfl
            have e82 := hin.is 15 82 (by kernel_rfl) (by decide) (by kernel_rfl) (by kernel_rfl) _ rfl
            clear hin hout
            intro K Q hK
            go_simp
            exact hK _ _ ⟨Same.refl _, rfl⟩
          refine allp_mild 0 rfl rfl rfl (fun a x W hout hin hP => ?_) ?_
          · have e83 := hin.is 16 83 (by kernel_rfl) (by decide) (by kernel_rfl) (by kernel_rfl) _ rfl
            exact does_move rfl e83 ⟨Same.refl _, rfl⟩
          refine allp_mild 0 rfl rfl rfl (fun a x W hout hin hP => ?_) ?_
          · have C := (C4.out) W hP
            clear hP
            clear hin hout
            intro K Q hK
            go_simp
            refine C.mono ?_
            rintro e W' ⟨rfl, hb⟩
            exact hK _ _ ⟨hb, rfl⟩
          refine allp_mild 0 rfl rfl rfl (fun a x W hout hin hP => ?_) ?_
          · have e85 := hin.is 18 85 (by kernel_rfl) (by decide) (by kernel_rfl) (by kernel_rfl) _ rfl
            clear hin hout
            intro K Q hK
            go_simp
            exact hK _ _ ⟨Same.refl _, rfl⟩
          refine allp_mild 0 rfl rfl rfl (fun a x W hout hin hP => ?_) ?_
          · have e84 := hin.is 17 84 (by kernel_rfl) (by decide) (by kernel_rfl) (by kernel_rfl) _ rfl
            have e86 := hin.is 19 86 (by kernel_rfl) (by decide) (by kernel_rfl) (by kernel_rfl) _ rfl
            clear hin hout
            intro K Q hK
            go_simp
            exact hK _ _ ⟨Same.refl _, rfl⟩
          refine allp_mild 0 rfl rfl rfl (fun a x W hout hin hP => ?_) ?_
          · have e87 := hin.is 20 87 (by kernel_rfl) (by decide) (by kernel_rfl) (by kernel_rfl) _ rfl
            exact does_move rfl e87 ⟨Same.refl _, rfl⟩
          refine allp_mild 0 rfl rfl rfl (fun a x W hout hin hP => ?_) ?_
          · have h0 := hP
            clear hP
            clear hin hout
            intro K Q hK
            go_simp
            refine (lwakes_any D W).mono ?_
            rintro e W' ⟨rfl, hb⟩
            exact hK _ _ ⟨hb, rfl⟩
          refine allp_mild 0 rfl rfl rfl (fun a x W hout hin hP => ?_) ?_
          · have e88 := hin.is 21 88 (by kernel_rfl) (by decide) (by kernel_rfl) (by kernel_rfl) _ rfl
            have e89 := hin.is 22 89 (by kernel_rfl) (by decide) (by kernel_rfl) (by kernel_rfl) _ rfl
            clear hin hout
            intro K Q hK
            go_simp
            exact hK _ _ ⟨Same.refl _, rfl⟩
          refine allp_mild 0 rfl rfl rfl (fun a x W hout hin hP => ?_) ?_
          · have e90 := hin.is 23 90 (by kernel_rfl) (by decide) (by kernel_rfl) (by kernel_rfl) _ rfl
            exact does_assign rfl e90 ⟨Same.refl _, rfl⟩
          exact all_end (by decide)
        · intro x W hP hV
          have h24 : x 24 = .bool true := hV 24 (by decide) (.inl (by kernel_rfl))
          have HP := Lib.hid hP
          clear hV hP
          simp only [putL, Act.put, List.setIfInBounds_toArray, List.set_cons_succ, List.set_cons_zero, h24]
          refine wpAnyH_done (by kernel_rfl) ?_ _
          clear h24
          go_wp2_with fail
          go_ret
          exact ⟨rfl, HP.out⟩
end Go.Proofs.Ytmghacgifokbhaa
