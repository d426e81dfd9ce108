/- How many blocks are free: OnesCount16, Free. -/
import Derived.Test.YtkfccdjeohbngaaPoolUsed
import Derived.Test.YtkfccdjeohbngaaPh
import Derived.Test.YtkfccdjeohbngaaPhs
import Derived.Lib.BitFns
set_option maxRecDepth 4000
namespace Go.Proofs.Ytkfccdjeohbngaa
open Go Go.RowKit
def freeL (u : BitVec 16) : List Int := ((List.range 12).filter fun b => !u.getLsbD b).map Int.ofNat
def cnt16 (u : BitVec 16) : Int := IntKind.u8.wrap (Lib.pop8 (hd u / 256) + Lib.pop8 (hd u % 256))
theorem pop_bits : ∀ y : Fin 256, Lib.onesCount y.val = (y.val.testBit 0).toNat + (y.val.testBit 1).toNat + (y.val.testBit 2).toNat + (y.val.testBit 3).toNat + (y.val.testBit 4).toNat + (y.val.testBit 5).toNat + (y.val.testBit 6).toNat + (y.val.testBit 7).toNat := by decide +kernel
theorem not_one (b : Bool) : (if (!b) = true then 1 else 0) = 1 - b.toNat := by cases b <;> rfl
theorem free_len (f : Nat → Bool) : ((List.range 12).filter fun b => !f b).length = 12 - ((f 0).toNat + (f 1).toNat + (f 2).toNat + (f 3).toNat + (f 4).toNat + (f 5).toNat + (f 6).toNat + (f 7).toNat + (f 8).toNat + (f 9).toNat + (f 10).toNat + (f 11).toNat) := by
  rw [← List.countP_eq_length_filter, show List.range 12 = [0, 1, 2, 3, 4, 5, 6, 7, 8, 9, 10, 11] from rfl]
  simp only [List.countP_cons, List.countP_nil, not_one]
  have h := fun n => Bool.toNat_le (f n)
  have h0 := h 0; have h1 := h 1; have h2 := h 2; have h3 := h 3; have h4 := h 4; have h5 := h 5; have h6 := h 6; have h7 := h 7; have h8 := h 8; have h9 := h 9; have h10 := h 10; have h11 := h 11
  omega
theorem cnt_free (u : BitVec 16) (h : u.toNat < 4096) : cnt16 u = 12 - ((freeL u).length : Int) := by
  have ha : (hd u / 256) = ((⟨u.toNat / 256, by omega⟩ : Fin 256).val : Int) := by unfold hd; show _ = ((u.toNat / 256 : Nat) : Int); omega
  have hb : (hd u % 256) = ((⟨u.toNat % 256, by omega⟩ : Fin 256).val : Int) := by unfold hd; show _ = ((u.toNat % 256 : Nat) : Int); omega
  unfold cnt16 freeL
  rw [ha, hb, Lib.pop8_eq, Lib.pop8_eq, pop_bits, pop_bits, List.length_map, free_len]
  have e : ∀ k, u.getLsbD k = u.toNat.testBit k := fun k => rfl
  have el : ∀ k, k < 8 → (u.toNat % 256).testBit k = u.toNat.testBit k := fun k hk => by rw [show 256 = 2 ^ 8 from rfl, Nat.testBit_mod_two_pow]; simp [hk]
  have eh : ∀ k, (u.toNat / 256).testBit k = u.toNat.testBit (k + 8) := fun k => by rw [show 256 = 2 ^ 8 from rfl, Nat.testBit_div_two_pow]
  have ez : ∀ k, 12 ≤ k → u.toNat.testBit k = false := fun k hk => Nat.testBit_lt_two_pow (Nat.lt_of_lt_of_le h (Nat.pow_le_pow_right (by decide) hk : 2 ^ 12 ≤ 2 ^ k))
  simp only [e, eh, el 0 (by decide), el 1 (by decide), el 2 (by decide), el 3 (by decide), el 4 (by decide), el 5 (by decide), el 6 (by decide), el 7 (by decide), Nat.reduceAdd, ez 12 (by decide), ez 13 (by decide), ez 14 (by decide), ez 15 (by decide), Bool.toNat_false]
  have hk := fun n => Bool.toNat_le (u.toNat.testBit n)
  have h0 := hk 0; have h1 := hk 1; have h2 := hk 2; have h3 := hk 3; have h4 := hk 4; have h5 := hk 5; have h6 := hk 6; have h7 := hk 7; have h8 := hk 8; have h9 := hk 9; have h10 := hk 10; have h11 := hk 11
  rw [IntKind.wrap_u8']
  omega
theorem cnt_lo (u : BitVec 16) : 0 ≤ cnt16 u ∧ cnt16 u < 256 := by unfold cnt16; rw [IntKind.wrap_u8']; omega
theorem bit_small : ∀ b : Fin 12, (bitI (b.val : Int)).toNat < 4096 := by decide
theorem bitI_lt (b : Int) : (bitI b).toNat < 4096 := by
  by_cases h : 0 ≤ b ∧ b < 12
  · have := bit_small ⟨b.toNat, by omega⟩
    have e : ((b.toNat : Nat) : Int) = b := by omega
    simp only [e] at this
    exact this
  · unfold bitI; rw [if_neg h]; decide
theorem useL_lt (L : List Int) : ∀ u : BitVec 16, u.toNat < 4096 → (useL u L).toNat < 4096 := by
  induction L with
  | nil => exact fun u h => h
  | cons b L ih => exact fun u h => ih _ (by rw [BitVec.toNat_or]; exact Nat.or_lt_two_pow (n := 12) h (bitI_lt b))
theorem usedV_lt (l : List Vl) : (usedV l).toNat < 4096 := by
  unfold usedV
  suffices ∀ u : BitVec 16, u.toNat < 4096 → (l.foldl (fun u x => useL u x.2) u).toNat < 4096 from this _ (by decide)
  induction l with
  | nil => exact fun u h => h
  | cons x l ih => exact fun u h => ih _ (useL_lt _ _ h)
set_option maxHeartbeats 800000 in
theorem ones_any (u : BitVec 16) (w : World) : Calls Try.prog 19 #[.int .u16 (hd u)] w fun e w' => e = .returned (.int .i64 (cnt16 u)) ∧ Below w.heap.size w w' := by
  have hc := cnt_lo u
  obtain ⟨c, hcc⟩ : ∃ c, cnt16 u = c := ⟨_, rfl⟩
  obtain ⟨a, ha⟩ : ∃ a, hd u / 256 = a := ⟨_, rfl⟩
  obtain ⟨b, hb⟩ : ∃ b, bits .and .u16 (hd u) 255 = b := ⟨_, rfl⟩
  have h0 := hd_lo u
  have h1 := hd_hi u
  have hbm : hd u % 256 = b := by
    rw [← hb, show bits .and .u16 (hd u) 255 = hd (u &&& 255#16) from and_hd u 255#16]
    unfold hd
    have : (u &&& 255#16).toNat = u.toNat % 256 := by rw [BitVec.toNat_and]; exact Nat.and_two_pow_sub_one_eq_mod u.toNat 8
    rw [this]; omega
  have hcp : IntKind.u8.wrap (Lib.pop8 a + Lib.pop8 b) = c := by rw [← hcc, ← ha, ← hbm]; rfl
  rw [hcc] at hc ⊢
  have HA := Lib.hid ha
  have HBB := Lib.hid hb
  have HC := Lib.hid hcp
  have HA0 : Hid (0 ≤ a) := Lib.hid (by omega)
  have HA1 : Hid (a ≤ 255) := Lib.hid (by omega)
  have HB0 : Hid (0 ≤ b) := Lib.hid (by omega)
  have HB1 : Hid (b ≤ 255) := Lib.hid (by omega)
  have HC2 : Hid (IntKind.i64.wrap c = c) := Lib.hid (i64_id _ (by omega) (by omega))
  clear hc hcc ha hb h0 h1 hbm hcp
  go_enter Try.func19, Try.ntmps19
  go_upto_region 1 with fail
  have hF0 : Wl [fun W => Below w.heap.size w W] 0 w.drew := (Below.refl w.heap.size w).drew
  refine wp_region_phs [is (.int .u16 (hd u)), is (.int .u16 a), is (.int .u8 (Lib.pop8 a)), is (.int .u16 (hd u)), is (.int .u16 b), is (.int .u8 (Lib.pop8 b)), is (.int .u8 c), is (.int .i64 c), is (.int .i64 c)] [true, true, true, true, true, true, true, true, true] [(fun W => Below w.heap.size w W)] [false, false, false, false, false, false, false, false, false] [some 0, some 0, some 0, some 0, some 0, some 0, some 0, some 0, some 0] [some 3, some 4, some 5, some 6, some 7, some 8, some 9, some 10, some 2] 9 0 (fun _ => true) rfl rfl (by kernel_rfl) (by kernel_rfl) (by kernel_rfl) (by kernel_rfl) ?_ ?_ ?_ ?_ ?_ ?_
  · repeat first | exact wok_nil | refine wok_cons (by first | exact fun _ _ h k => h.trans (k.mono h.size)) ?_
  · repeat first | exact vok_nil | refine vok_rig (by first | exact fun _ _ _ h => h) ?_ | refine vok_soft (by first | exact fun _ _ _ h _ => h) ?_
  · exact hF0
  · repeat first | exact all_end (by decide) | refine all_cons (by first | exact rfl | exact ⟨rfl, fun _ _ h => Or.inl h⟩ | exact ⟨rfl, fun _ _ h => Or.inr ⟨h, rfl⟩⟩) ?_
  · refine allp_mild 0 rfl rfl rfl (fun a_ x_ W hout hin hP => ?_) ?_
    · have e0 : a_.tmps[0]? = some (.int .u16 (hd u)) := (hout 0 (by kernel_rfl)).trans rfl
      exact does_move rfl e0 ⟨Same.refl _, rfl⟩
    refine allp_mild 0 rfl rfl rfl (fun a_ x_ W hout hin hP => ?_) ?_
    · have e3 := hin.is 0 3 (by kernel_rfl) (by decide) (by kernel_rfl) (by kernel_rfl) _ rfl
      have ha := HA.out
      have hb := HBB.out
      have hc := HC.out
      have ha0 := HA0.out
      have hb0 := HB0.out
      have ha1 := HA1.out
      have hb1 := HB1.out
      have hc2 := HC2.out
      clear hin hout
      intro K Q hK
      go_simp
      exact hK _ _ ⟨Same.refl _, rfl⟩
    refine allp_mild 0 rfl rfl rfl (fun a_ x_ W hout hin hP => ?_) ?_
    · have e4 := hin.is 1 4 (by kernel_rfl) (by decide) (by kernel_rfl) (by kernel_rfl) _ rfl
      have ha := HA.out
      have hb := HBB.out
      have hc := HC.out
      have ha0 := HA0.out
      have hb0 := HB0.out
      have ha1 := HA1.out
      have hb1 := HB1.out
      have hc2 := HC2.out
      clear hin hout
      intro K Q hK
      go_simp
      exact hK _ _ ⟨Same.refl _, rfl⟩
    refine allp_mild 0 rfl rfl rfl (fun a_ x_ W hout hin hP => ?_) ?_
    · have e0 : a_.tmps[0]? = some (.int .u16 (hd u)) := (hout 0 (by kernel_rfl)).trans rfl
      exact does_move rfl e0 ⟨Same.refl _, rfl⟩
    refine allp_mild 0 rfl rfl rfl (fun a_ x_ W hout hin hP => ?_) ?_
    · have e6 := hin.is 3 6 (by kernel_rfl) (by decide) (by kernel_rfl) (by kernel_rfl) _ rfl
      have ha := HA.out
      have hb := HBB.out
      have hc := HC.out
      have ha0 := HA0.out
      have hb0 := HB0.out
      have ha1 := HA1.out
      have hb1 := HB1.out
      have hc2 := HC2.out
      clear hin hout
      intro K Q hK
      go_simp
      exact hK _ _ ⟨Same.refl _, rfl⟩
    refine allp_mild 0 rfl rfl rfl (fun a_ x_ W hout hin hP => ?_) ?_
    · have e7 := hin.is 4 7 (by kernel_rfl) (by decide) (by kernel_rfl) (by kernel_rfl) _ rfl
      have ha := HA.out
      have hb := HBB.out
      have hc := HC.out
      have ha0 := HA0.out
      have hb0 := HB0.out
      have ha1 := HA1.out
      have hb1 := HB1.out
      have hc2 := HC2.out
      clear hin hout
      intro K Q hK
      go_simp
      exact hK _ _ ⟨Same.refl _, rfl⟩
    refine allp_mild 0 rfl rfl rfl (fun a_ x_ W hout hin hP => ?_) ?_
    · have e5 := hin.is 2 5 (by kernel_rfl) (by decide) (by kernel_rfl) (by kernel_rfl) _ rfl
      have e8 := hin.is 5 8 (by kernel_rfl) (by decide) (by kernel_rfl) (by kernel_rfl) _ rfl
      have ha := HA.out
      have hb := HBB.out
      have hc := HC.out
      have ha0 := HA0.out
      have hb0 := HB0.out
      have ha1 := HA1.out
      have hb1 := HB1.out
      have hc2 := HC2.out
      clear hin hout
      intro K Q hK
      go_simp
      exact hK _ _ ⟨Same.refl _, rfl⟩
    refine allp_mild 0 rfl rfl rfl (fun a_ x_ W hout hin hP => ?_) ?_
    · have e9 := hin.is 6 9 (by kernel_rfl) (by decide) (by kernel_rfl) (by kernel_rfl) _ rfl
      have ha := HA.out
      have hb := HBB.out
      have hc := HC.out
      have ha0 := HA0.out
      have hb0 := HB0.out
      have ha1 := HA1.out
      have hb1 := HB1.out
      have hc2 := HC2.out
      clear hin hout
      intro K Q hK
      go_simp
      exact hK _ _ ⟨Same.refl _, rfl⟩
    refine allp_mild 0 rfl rfl rfl (fun a_ x_ W hout hin hP => ?_) ?_
    · have e10 := hin.is 7 10 (by kernel_rfl) (by decide) (by kernel_rfl) (by kernel_rfl) _ rfl
      exact does_assign rfl e10 ⟨Same.refl _, rfl⟩
    exact all_end (by decide)
  · intro x_ W hP hV
    have h8 : x_ 8 = .int .i64 c := hV 8 (by decide) (.inl (by kernel_rfl))
    have hW := hP
    clear hP hV
    simp only [putL, Act.put, List.setIfInBounds_toArray, List.set_cons_succ, List.set_cons_zero, h8]
    refine wpAnyH_done (by kernel_rfl) ?_ _
    clear h8
    go_wp2_with fail
    go_ret
    exact ⟨rfl, hW⟩
set_option maxHeartbeats 800000 in
theorem free_any (A : Option Addr) (n c : Nat) (l : List Vl) (w : World) (h : VolsAt w (.slice A n c) l) (hn : n ≤ 1000000) (hm : ∀ x ∈ l, x.2.length ≤ 1000000) :
    Calls Try.prog 14 #[.slice A n c] w fun e w' => e = .returned (.int .i64 ((freeL (usedV l)).length : Int)) ∧ Below w.heap.size w w' := by
  have hu := used_any A n c l w h hn hm
  have hcf := cnt_free (usedV l) (usedV_lt l)
  have hc := cnt_lo (usedV l)
  have ho := fun w => ones_any (usedV l) w
  obtain ⟨z, hz⟩ : ∃ z, cnt16 (usedV l) = z := ⟨_, rfl⟩
  obtain ⟨u, hu2⟩ : ∃ u, usedV l = u := ⟨_, rfl⟩
  rw [hz, hu2] at hcf ho
  rw [hz] at hc
  rw [hu2] at hu ⊢
  have hs : IntKind.i64.wrap (12 - z) = ((freeL u).length : Int) := by rw [i64_id _ (by omega) (by omega)]; omega
  have HS := Lib.hid hs
  clear h hn hm hcf hc hz hu2 hs
  go_enter Try.func14, Try.ntmps14
  go_wp2_with fail
  refine hu.mono ?_
  rintro e w2 ⟨rfl, hb⟩
  have HB := Lib.hid hb
  clear hb hu
  go_wp2_with fail
  refine (ho w2).mono ?_
  rintro e w3 ⟨rfl, hb⟩
  have HB2 := Lib.hid (HB.out.trans (hb.mono HB.out.size))
  clear hb
  have hs := HS.out
  go_wp2_with fail
  go_ret
  exact ⟨rfl, HB2.out⟩
end Go.Proofs.Ytkfccdjeohbngaa
