/- The statement PoolOrder: its walk. -/
import Derived.Test.YtkfccdjeohbngaaPoolFair
import Derived.Test.YtkfccdjeohbngaaPoolWakes
set_option maxRecDepth 4000
namespace Go.Proofs.Ytkfccdjeohbngaa
open Go Go.RowKit
theorem useL_or (L : List Int) : ∀ u v : BitVec 16, useL (u ||| v) L = u ||| useL v L := by
  induction L with
  | nil => exact fun u v => rfl
  | cons b L ih =>
    intro u v
    show useL ((u ||| v) ||| bitI b) L = u ||| useL (v ||| bitI b) L
    rw [BitVec.or_assoc, ih]
theorem fold_or (l : List Vl) : ∀ u v : BitVec 16, l.foldl (fun u x => useL u x.2) (u ||| v) = u ||| l.foldl (fun u x => useL u x.2) v := by
  induction l with
  | nil => exact fun u v => rfl
  | cons x l ih =>
    intro u v
    show l.foldl (fun u x => useL u x.2) (useL (u ||| v) x.2) = u ||| l.foldl (fun u x => useL u x.2) (useL v x.2)
    rw [useL_or, ih]
theorem usedV_append (l m : List Vl) : usedV (l ++ m) = usedV l ||| usedV m := by
  have h1 : usedV l = usedV l ||| 1#16 := by
    have := fold_or l 1#16 1#16
    rw [BitVec.or_self, BitVec.or_comm] at this
    exact this
  have e : usedV (l ++ m) = m.foldl (fun u x => useL u x.2) (usedV l) := List.foldl_append
  rw [e]
  conv => lhs; rw [h1]
  exact fold_or m _ _
theorem usedV_comm (l m : List Vl) : usedV (m ++ l) = usedV (l ++ m) := by rw [usedV_append, usedV_append, BitVec.or_comm]
theorem usedV_twice (l m : List Vl) : usedV ((l ++ m) ++ l) = usedV (l ++ m) := by
  rw [usedV_append, usedV_append, BitVec.or_assoc, BitVec.or_comm (usedV m), ← BitVec.or_assoc, BitVec.or_self]
set_option maxHeartbeats 3200000 in
theorem plorder_walk (A : Option Addr) (n c : Nat) (l : List Vl) (B : Option Addr) (m d : Nat) (r : List Vl) (x : BitVec 8) (w : World) (h : VolsAt w (.slice A n c) l) (hn : n ≤ maxLen) (h' : VolsAt w (.slice B m d) r) (hm : m ≤ maxLen) :
    Calls Try.prog 6 #[.slice A n c, .slice B m d, .int .u8 (bd x)] w fun e w' => e = .returned (.bool true) ∧ Below w.heap.size w w' := by
  go_enter Try.func6, Try.ntmps6
  go_wp2_with fail
  refine (fairV_any A n c l w h hn).mono ?_
  rintro e w2 ⟨rfl, rfl⟩
  cases hfl : fairV l with
  | false =>
    go_wp2_with fail
    refine (plwakes_any w).mono ?_
    rintro x9 w99 ⟨rfl, hb9⟩
    go_wp2_with fail
    go_ret
    exact ⟨rfl, (Below.refl w.heap.size w).trans (hb9.mono (Below.refl w.heap.size w).size)⟩
  | true =>
  go_wp2_with fail
  refine (fairV_any B m d r w h' hm).mono ?_
  rintro e w2 ⟨rfl, rfl⟩
  cases hfr : fairV r with
  | false =>
    go_wp2_with fail
    refine (plwakes_any w).mono ?_
    rintro x9 w99 ⟨rfl, hb9⟩
    go_wp2_with fail
    go_ret
    exact ⟨rfl, (Below.refl w.heap.size w).trans (hb9.mono (Below.refl w.heap.size w).size)⟩
  | true =>
  have HLN : Hid (l.length ≤ 20 ∧ r.length ≤ 20) := Lib.hid ⟨fairV_len hfl, fairV_len hfr⟩
  have HEL := Lib.hid (fairV_each hfl)
  have HER := Lib.hid (fairV_each hfr)
  have HVl := Lib.hid h
  have HVm := Lib.hid h'
  clear hfl hfr h h'
  have HA3 : Hid (Below w.heap.size w (w.alloc (.cells #[] 42))) := Lib.hid ((Below.refl _ _).alloc (Nat.le_refl _) _)
  have HE3 := Lib.hid (OV.empty w.heap.size w (Nat.le_refl _))
  go_upto_region 4 with (first | ((with_reducible refine wpList_plain ?_ ?_); exact rfl; intro KK hKK; refine wp_append_vols (.tmp 26) (.tmp 27) rfl w.heap.size _ _ rfl HE3.out _ _ _ _ rfl (vols_in HVl.out (Nat.le_refl _) HA3.out) (by have := HLN.out; (repeat rw [List.length_append]); (repeat rw [List.length_nil]); omega) HA3.out.size (fun v3 w3 ovx hbx => hKK _ _ ?_); clear hKK KK; have HB3 := Lib.hid (HA3.out.trans hbx); (try rw [List.nil_append] at ovx); have HO3 := Lib.hid ovx; clear ovx hbx) | ((with_reducible refine wpList_plain ?_ ?_); exact rfl; intro KK hKK; refine wp_append_vols (.tmp 28) (.tmp 29) rfl w.heap.size _ _ rfl HO3.out _ _ _ _ rfl (vols_in HVm.out (Nat.le_refl _) HB3.out) (by have := HLN.out; (repeat rw [List.length_append]); (repeat rw [List.length_nil]); omega) HB3.out.size (fun v3b w3b ovx hbx => hKK _ _ ?_); clear hKK KK; have HB3b := Lib.hid (HB3.out.trans hbx); (try rw [List.nil_append] at ovx); have HO3b := Lib.hid ovx; clear ovx hbx))
  obtain ⟨A3, N3, c3, rfl, hN3, hc3⟩ := OV.form2 HO3b.out
  have HVlx := Lib.hid (HVl.out.below HB3b.out (Nat.le_refl _))
  clear HVl
  have HVl := HVlx
  clear HVlx
  have HVmx := Lib.hid (HVm.out.below HB3b.out (Nat.le_refl _))
  clear HVm
  have HVm := HVmx
  clear HVmx
  have HVb := Lib.hid (HO3b.out.vols (by (repeat rw [List.length_append]); have := HLN.out; unfold maxLen; omega))
  have HZ3 : Hid (Below w.heap.size w w3b) := Lib.hid HB3b.out
  clear HA3 HE3 HB3 HB3b HO3 HO3b hc3
  have HN3 := Lib.hid hN3
  clear hN3
  have HA4 : Hid (Below w3b.heap.size w3b (w3b.alloc (.cells #[] 42))) := Lib.hid ((Below.refl _ _).alloc (Nat.le_refl _) _)
  have HE4 := Lib.hid (OV.empty w3b.heap.size w3b (Nat.le_refl _))
  go_upto_region 5 with (first | ((with_reducible refine wpList_plain ?_ ?_); exact rfl; intro KK hKK; refine wp_append_vols (.tmp 31) (.tmp 32) rfl w3b.heap.size _ _ rfl HE4.out _ _ _ _ rfl (vols_in HVm.out (Nat.le_refl _) HA4.out) (by have := HLN.out; (repeat rw [List.length_append]); (repeat rw [List.length_nil]); omega) HA4.out.size (fun v4 w4 ovx hbx => hKK _ _ ?_); clear hKK KK; have HB4 := Lib.hid (HA4.out.trans hbx); (try rw [List.nil_append] at ovx); have HO4 := Lib.hid ovx; clear ovx hbx) | ((with_reducible refine wpList_plain ?_ ?_); exact rfl; intro KK hKK; refine wp_append_vols (.tmp 33) (.tmp 34) rfl w3b.heap.size _ _ rfl HO4.out _ _ _ _ rfl (vols_in HVl.out (Nat.le_refl _) HB4.out) (by have := HLN.out; (repeat rw [List.length_append]); (repeat rw [List.length_nil]); omega) HB4.out.size (fun v4b w4b ovx hbx => hKK _ _ ?_); clear hKK KK; have HB4b := Lib.hid (HB4.out.trans hbx); (try rw [List.nil_append] at ovx); have HO4b := Lib.hid ovx; clear ovx hbx))
  obtain ⟨A4, N4, c4, rfl, hN4, hc4⟩ := OV.form2 HO4b.out
  have HVlx := Lib.hid (HVl.out.below HB4b.out (Nat.le_refl _))
  clear HVl
  have HVl := HVlx
  clear HVlx
  have HVmx := Lib.hid (HVm.out.below HB4b.out (Nat.le_refl _))
  clear HVm
  have HVm := HVmx
  clear HVmx
  have HVbx := Lib.hid (HVb.out.below HB4b.out (Nat.le_refl _))
  clear HVb
  have HVb := HVbx
  clear HVbx
  have HVk := Lib.hid (HO4b.out.vols (by (repeat rw [List.length_append]); have := HLN.out; unfold maxLen; omega))
  have HZ4 : Hid (Below w.heap.size w w4b) := Lib.hid (HZ3.out.trans (HB4b.out.mono HZ3.out.size))
  clear HA4 HE4 HB4 HB4b HO4 HO4b hc4
  have HN4 := Lib.hid hN4
  clear hN4
  have HA5 : Hid (Below w4b.heap.size w4b (w4b.alloc (.cells #[] 42))) := Lib.hid ((Below.refl _ _).alloc (Nat.le_refl _) _)
  have HE5 := Lib.hid (OV.empty w4b.heap.size w4b (Nat.le_refl _))
  go_upto_region 6 with (first | ((with_reducible refine wpList_plain ?_ ?_); exact rfl; intro KK hKK; refine wp_append_vols (.tmp 36) (.tmp 37) rfl w4b.heap.size _ _ rfl HE5.out _ _ _ _ rfl (vols_in HVb.out (Nat.le_refl _) HA5.out) (by have := HLN.out; (repeat rw [List.length_append]); (repeat rw [List.length_nil]); omega) HA5.out.size (fun v5 w5 ovx hbx => hKK _ _ ?_); clear hKK KK; have HB5 := Lib.hid (HA5.out.trans hbx); (try rw [List.nil_append] at ovx); have HO5 := Lib.hid ovx; clear ovx hbx) | ((with_reducible refine wpList_plain ?_ ?_); exact rfl; intro KK hKK; refine wp_append_vols (.tmp 38) (.tmp 39) rfl w4b.heap.size _ _ rfl HO5.out _ _ _ _ rfl (vols_in HVl.out (Nat.le_refl _) HB5.out) (by have := HLN.out; (repeat rw [List.length_append]); (repeat rw [List.length_nil]); omega) HB5.out.size (fun v5b w5b ovx hbx => hKK _ _ ?_); clear hKK KK; have HB5b := Lib.hid (HB5.out.trans hbx); (try rw [List.nil_append] at ovx); have HO5b := Lib.hid ovx; clear ovx hbx))
  obtain ⟨A5, N5, c5, rfl, hN5, hc5⟩ := OV.form2 HO5b.out
  have HVlx := Lib.hid (HVl.out.below HB5b.out (Nat.le_refl _))
  clear HVl
  have HVl := HVlx
  clear HVlx
  have HVmx := Lib.hid (HVm.out.below HB5b.out (Nat.le_refl _))
  clear HVm
  have HVm := HVmx
  clear HVmx
  have HVbx := Lib.hid (HVb.out.below HB5b.out (Nat.le_refl _))
  clear HVb
  have HVb := HVbx
  clear HVbx
  have HVkx := Lib.hid (HVk.out.below HB5b.out (Nat.le_refl _))
  clear HVk
  have HVk := HVkx
  clear HVkx
  have HVt := Lib.hid (HO5b.out.vols (by (repeat rw [List.length_append]); have := HLN.out; unfold maxLen; omega))
  have HZ5 : Hid (Below w.heap.size w w5b) := Lib.hid (HZ4.out.trans (HB5b.out.mono HZ4.out.size))
  clear HA5 HE5 HB5 HB5b HO5 HO5b hc5
  have HN5 := Lib.hid hN5
  clear hN5
  obtain ⟨u, hu⟩ : ∃ u, usedV (l ++ r) = u := ⟨_, rfl⟩
  have HUk : Hid (usedV (r ++ l) = u) := Lib.hid (by rw [usedV_comm, hu])
  have HUt : Hid (usedV (l ++ r ++ l) = u) := Lib.hid (by rw [usedV_twice, hu])
  have HUb : Hid (usedV (l ++ r) = u) := Lib.hid hu
  have HEb : Hid (∀ x ∈ l ++ r, x.2.length ≤ 1000000) := Lib.hid fun x hx => by
    rcases List.mem_append.1 hx with h | h
    · exact Nat.le_trans (HEL.out x h) (by omega)
    · exact Nat.le_trans (HER.out x h) (by omega)
  have HEk : Hid (∀ x ∈ r ++ l, x.2.length ≤ 1000000) := Lib.hid fun x hx => HEb.out x (by simp only [List.mem_append] at hx ⊢; exact hx.symm)
  have HEt : Hid (∀ x ∈ l ++ r ++ l, x.2.length ≤ 1000000) := Lib.hid fun x hx => by
    rcases List.mem_append.1 hx with h | h
    · exact HEb.out x h
    · exact HEb.out x (List.mem_append_left _ h)
  have HMl : Hid (n = l.length) := Lib.hid (vols_len HVl.out).symm
  have HMm : Hid (m = r.length) := Lib.hid (vols_len HVm.out).symm
  have HN3b : Hid (N3 ≤ 1000000) := Lib.hid (by have := HN3.out; have := HLN.out; rw [List.length_append] at *; omega)
  have HN4b : Hid (N4 ≤ 1000000) := Lib.hid (by have := HN4.out; have := HLN.out; rw [List.length_append] at *; omega)
  have HN5b : Hid (N5 ≤ 1000000) := Lib.hid (by have := HN5.out; have := HLN.out; rw [List.length_append, List.length_append] at *; omega)
  obtain ⟨K, hK⟩ : ∃ K, 1 + (bd x).tmod 4 = K := ⟨_, rfl⟩
  have hK14 : 1 ≤ K ∧ K ≤ 4 := by have := bd_lo x; have := bd_hi x; rw [← hK, Int.tmod_eq_emod_of_nonneg (by omega)]; omega
  have hwx : IntKind.i64.wrap (bd x) = bd x := by have := bd_lo x; have := bd_hi x; rw [IntKind.wrap_i64]; omega
  have hwK : IntKind.i64.wrap K = K := by rw [IntKind.wrap_i64]; omega
  have HK14 := Lib.hid hK14
  obtain ⟨V, hV⟩ : ∃ V, takeV u K = V := ⟨_, rfl⟩
  obtain ⟨Er, hEr⟩ : ∃ Er, takeE u K = Er := ⟨_, rfl⟩
  have HVV := Lib.hid hV
  have HEE := Lib.hid hEr
  have hVb : ∀ y ∈ V, -9223372036854775808 ≤ y ∧ y < 9223372036854775808 := fun y hy => by
    have := takeV_bound u K y (by rw [hV]; exact hy)
    omega
  have HVB := Lib.hid hVb
  have HVN : Hid (V.length ≤ 12) := Lib.hid (by rw [← hV]; exact takeV_len u K)
  obtain ⟨nv, hnv⟩ : ∃ nv, V.length = nv := ⟨_, rfl⟩
  have HNV := Lib.hid hnv
  clear hu hK14 hV hEr hVb hnv
  have HB0 := HZ5
  have T1 := take_any K A3 N3 c3 (l ++ r) w5b HVb.out HN3b.out HEb.out (by have := HK14.out; omega)
  rw [HUb.out, HVV.out, HEE.out, HNV.out] at T1
  go_wp2_with fail
  refine T1.mono ?_
  rintro e W1 ⟨v1, rfl, ho, hb⟩
  obtain ⟨Q1, q1, rfl, _⟩ := own_slice_form ho
  have hia := ints_own ho HVB.out
  have HB1 := Lib.hid (HB0.out.trans (hb.mono HB0.out.size))
  have HVlx := Lib.hid (HVl.out.below hb (Nat.le_refl _))
  clear HVl
  have HVl := HVlx
  clear HVlx
  have HVmx := Lib.hid (HVm.out.below hb (Nat.le_refl _))
  clear HVm
  have HVm := HVmx
  clear HVmx
  have HVbx := Lib.hid (HVb.out.below hb (Nat.le_refl _))
  clear HVb
  have HVb := HVbx
  clear HVbx
  have HVkx := Lib.hid (HVk.out.below hb (Nat.le_refl _))
  clear HVk
  have HVk := HVkx
  clear HVkx
  have HVtx := Lib.hid (HVt.out.below hb (Nat.le_refl _))
  clear HVt
  have HVt := HVtx
  clear HVtx
  have HI1 := Lib.hid hia
  clear ho hia hb T1 HB0
  have T2 := take_any K A4 N4 c4 (r ++ l) W1 HVk.out HN4b.out HEk.out (by have := HK14.out; omega)
  rw [HUk.out, HVV.out, HEE.out, HNV.out] at T2
  go_wp2_with fail
  refine T2.mono ?_
  rintro e W2 ⟨v2, rfl, ho, hb⟩
  obtain ⟨Q2, q2, rfl, _⟩ := own_slice_form ho
  have hia := ints_own ho HVB.out
  have HB2 := Lib.hid (HB1.out.trans (hb.mono HB1.out.size))
  have HVlx := Lib.hid (HVl.out.below hb (Nat.le_refl _))
  clear HVl
  have HVl := HVlx
  clear HVlx
  have HVmx := Lib.hid (HVm.out.below hb (Nat.le_refl _))
  clear HVm
  have HVm := HVmx
  clear HVmx
  have HVbx := Lib.hid (HVb.out.below hb (Nat.le_refl _))
  clear HVb
  have HVb := HVbx
  clear HVbx
  have HVkx := Lib.hid (HVk.out.below hb (Nat.le_refl _))
  clear HVk
  have HVk := HVkx
  clear HVkx
  have HVtx := Lib.hid (HVt.out.below hb (Nat.le_refl _))
  clear HVt
  have HVt := HVtx
  clear HVtx
  have HI1x := Lib.hid (HI1.out.below hb (Nat.le_refl _))
  clear HI1
  have HI1 := HI1x
  clear HI1x
  have HI2 := Lib.hid hia
  clear ho hia hb T2 HB1
  have T3 := take_any K A5 N5 c5 (l ++ r ++ l) W2 HVt.out HN5b.out HEt.out (by have := HK14.out; omega)
  rw [HUt.out, HVV.out, HEE.out, HNV.out] at T3
  go_wp2_with fail
  refine T3.mono ?_
  rintro e W3 ⟨v3, rfl, ho, hb⟩
  obtain ⟨Q3, q3, rfl, _⟩ := own_slice_form ho
  have hia := ints_own ho HVB.out
  have HB3 := Lib.hid (HB2.out.trans (hb.mono HB2.out.size))
  have HVlx := Lib.hid (HVl.out.below hb (Nat.le_refl _))
  clear HVl
  have HVl := HVlx
  clear HVlx
  have HVmx := Lib.hid (HVm.out.below hb (Nat.le_refl _))
  clear HVm
  have HVm := HVmx
  clear HVmx
  have HVbx := Lib.hid (HVb.out.below hb (Nat.le_refl _))
  clear HVb
  have HVb := HVbx
  clear HVbx
  have HVkx := Lib.hid (HVk.out.below hb (Nat.le_refl _))
  clear HVk
  have HVk := HVkx
  clear HVkx
  have HVtx := Lib.hid (HVt.out.below hb (Nat.le_refl _))
  clear HVt
  have HVt := HVtx
  clear HVtx
  have HI1x := Lib.hid (HI1.out.below hb (Nat.le_refl _))
  clear HI1
  have HI1 := HI1x
  clear HI1x
  have HI2x := Lib.hid (HI2.out.below hb (Nat.le_refl _))
  clear HI2
  have HI2 := HI2x
  clear HI2x
  have HI3 := Lib.hid hia
  clear ho hia hb T3 HB2
  have U4 := used_any A3 N3 c3 (l ++ r) W3 HVb.out HN3b.out HEb.out
  rw [HUb.out] at U4
  go_wp2_with fail
  refine U4.mono ?_
  rintro e W4 ⟨rfl, hb⟩
  have HB4 := Lib.hid (HB3.out.trans (hb.mono HB3.out.size))
  have HVlx := Lib.hid (HVl.out.below hb (Nat.le_refl _))
  clear HVl
  have HVl := HVlx
  clear HVlx
  have HVmx := Lib.hid (HVm.out.below hb (Nat.le_refl _))
  clear HVm
  have HVm := HVmx
  clear HVmx
  have HVbx := Lib.hid (HVb.out.below hb (Nat.le_refl _))
  clear HVb
  have HVb := HVbx
  clear HVbx
  have HVkx := Lib.hid (HVk.out.below hb (Nat.le_refl _))
  clear HVk
  have HVk := HVkx
  clear HVkx
  have HVtx := Lib.hid (HVt.out.below hb (Nat.le_refl _))
  clear HVt
  have HVt := HVtx
  clear HVtx
  have HI1x := Lib.hid (HI1.out.below hb (Nat.le_refl _))
  clear HI1
  have HI1 := HI1x
  clear HI1x
  have HI2x := Lib.hid (HI2.out.below hb (Nat.le_refl _))
  clear HI2
  have HI2 := HI2x
  clear HI2x
  have HI3x := Lib.hid (HI3.out.below hb (Nat.le_refl _))
  clear HI3
  have HI3 := HI3x
  clear HI3x
  clear hb U4 HB3
  obtain ⟨ul, hul⟩ : ∃ ul, usedV l = ul := ⟨_, rfl⟩
  obtain ⟨ur, hur⟩ : ∃ ur, usedV r = ur := ⟨_, rfl⟩
  have hor : bits .or .u16 (hd ul) (hd ur) = hd u := by rw [or_hd, ← hul, ← hur, ← usedV_append, HUb.out]
  have HUl := Lib.hid hul
  have HUr := Lib.hid hur
  clear hul hur
  have U5 := used_any A n c l W4 HVl.out (by have := HMl.out; have := HLN.out; omega) (fun y hy => Nat.le_trans (HEL.out y hy) (by omega))
  rw [HUl.out] at U5
  go_wp2_with fail
  refine U5.mono ?_
  rintro e W5 ⟨rfl, hb⟩
  have HB5 := Lib.hid (HB4.out.trans (hb.mono HB4.out.size))
  have HVlx := Lib.hid (HVl.out.below hb (Nat.le_refl _))
  clear HVl
  have HVl := HVlx
  clear HVlx
  have HVmx := Lib.hid (HVm.out.below hb (Nat.le_refl _))
  clear HVm
  have HVm := HVmx
  clear HVmx
  have HVbx := Lib.hid (HVb.out.below hb (Nat.le_refl _))
  clear HVb
  have HVb := HVbx
  clear HVbx
  have HVkx := Lib.hid (HVk.out.below hb (Nat.le_refl _))
  clear HVk
  have HVk := HVkx
  clear HVkx
  have HVtx := Lib.hid (HVt.out.below hb (Nat.le_refl _))
  clear HVt
  have HVt := HVtx
  clear HVtx
  have HI1x := Lib.hid (HI1.out.below hb (Nat.le_refl _))
  clear HI1
  have HI1 := HI1x
  clear HI1x
  have HI2x := Lib.hid (HI2.out.below hb (Nat.le_refl _))
  clear HI2
  have HI2 := HI2x
  clear HI2x
  have HI3x := Lib.hid (HI3.out.below hb (Nat.le_refl _))
  clear HI3
  have HI3 := HI3x
  clear HI3x
  clear hb U5 HB4
  have U6 := used_any B m d r W5 HVm.out (by have := HMm.out; have := HLN.out; omega) (fun y hy => Nat.le_trans (HER.out y hy) (by omega))
  rw [HUr.out] at U6
  go_wp2_with fail
  refine U6.mono ?_
  rintro e W6 ⟨rfl, hb⟩
  have HB6 := Lib.hid (HB5.out.trans (hb.mono HB5.out.size))
  have HVlx := Lib.hid (HVl.out.below hb (Nat.le_refl _))
  clear HVl
  have HVl := HVlx
  clear HVlx
  have HVmx := Lib.hid (HVm.out.below hb (Nat.le_refl _))
  clear HVm
  have HVm := HVmx
  clear HVmx
  have HVbx := Lib.hid (HVb.out.below hb (Nat.le_refl _))
  clear HVb
  have HVb := HVbx
  clear HVbx
  have HVkx := Lib.hid (HVk.out.below hb (Nat.le_refl _))
  clear HVk
  have HVk := HVkx
  clear HVkx
  have HVtx := Lib.hid (HVt.out.below hb (Nat.le_refl _))
  clear HVt
  have HVt := HVtx
  clear HVtx
  have HI1x := Lib.hid (HI1.out.below hb (Nat.le_refl _))
  clear HI1
  have HI1 := HI1x
  clear HI1x
  have HI2x := Lib.hid (HI2.out.below hb (Nat.le_refl _))
  clear HI2
  have HI2 := HI2x
  clear HI2x
  have HI3x := Lib.hid (HI3.out.below hb (Nat.le_refl _))
  clear HI3
  have HI3 := HI3x
  clear HI3x
  clear hb U6 HB5
  have U7 := used_any A4 N4 c4 (r ++ l) W6 HVk.out HN4b.out HEk.out
  rw [HUk.out] at U7
  go_wp2_with fail
  refine U7.mono ?_
  rintro e W7 ⟨rfl, hb⟩
  have HB7 := Lib.hid (HB6.out.trans (hb.mono HB6.out.size))
  have HVlx := Lib.hid (HVl.out.below hb (Nat.le_refl _))
  clear HVl
  have HVl := HVlx
  clear HVlx
  have HVmx := Lib.hid (HVm.out.below hb (Nat.le_refl _))
  clear HVm
  have HVm := HVmx
  clear HVmx
  have HVbx := Lib.hid (HVb.out.below hb (Nat.le_refl _))
  clear HVb
  have HVb := HVbx
  clear HVbx
  have HVkx := Lib.hid (HVk.out.below hb (Nat.le_refl _))
  clear HVk
  have HVk := HVkx
  clear HVkx
  have HVtx := Lib.hid (HVt.out.below hb (Nat.le_refl _))
  clear HVt
  have HVt := HVtx
  clear HVtx
  have HI1x := Lib.hid (HI1.out.below hb (Nat.le_refl _))
  clear HI1
  have HI1 := HI1x
  clear HI1x
  have HI2x := Lib.hid (HI2.out.below hb (Nat.le_refl _))
  clear HI2
  have HI2 := HI2x
  clear HI2x
  have HI3x := Lib.hid (HI3.out.below hb (Nat.le_refl _))
  clear HI3
  have HI3 := HI3x
  clear HI3x
  clear hb U7 HB6
  have U8 := used_any A3 N3 c3 (l ++ r) W7 HVb.out HN3b.out HEb.out
  rw [HUb.out] at U8
  go_wp2_with fail
  refine U8.mono ?_
  rintro e W8 ⟨rfl, hb⟩
  have HB8 := Lib.hid (HB7.out.trans (hb.mono HB7.out.size))
  have HVlx := Lib.hid (HVl.out.below hb (Nat.le_refl _))
  clear HVl
  have HVl := HVlx
  clear HVlx
  have HVmx := Lib.hid (HVm.out.below hb (Nat.le_refl _))
  clear HVm
  have HVm := HVmx
  clear HVmx
  have HVbx := Lib.hid (HVb.out.below hb (Nat.le_refl _))
  clear HVb
  have HVb := HVbx
  clear HVbx
  have HVkx := Lib.hid (HVk.out.below hb (Nat.le_refl _))
  clear HVk
  have HVk := HVkx
  clear HVkx
  have HVtx := Lib.hid (HVt.out.below hb (Nat.le_refl _))
  clear HVt
  have HVt := HVtx
  clear HVtx
  have HI1x := Lib.hid (HI1.out.below hb (Nat.le_refl _))
  clear HI1
  have HI1 := HI1x
  clear HI1x
  have HI2x := Lib.hid (HI2.out.below hb (Nat.le_refl _))
  clear HI2
  have HI2 := HI2x
  clear HI2x
  have HI3x := Lib.hid (HI3.out.below hb (Nat.le_refl _))
  clear HI3
  have HI3 := HI3x
  clear HI3x
  clear hb U8 HB7
  have U9 := free_any A5 N5 c5 (l ++ r ++ l) W8 HVt.out HN5b.out HEt.out
  rw [HUt.out] at U9
  go_wp2_with fail
  refine U9.mono ?_
  rintro e W9 ⟨rfl, hb⟩
  have HB9 := Lib.hid (HB8.out.trans (hb.mono HB8.out.size))
  have HVlx := Lib.hid (HVl.out.below hb (Nat.le_refl _))
  clear HVl
  have HVl := HVlx
  clear HVlx
  have HVmx := Lib.hid (HVm.out.below hb (Nat.le_refl _))
  clear HVm
  have HVm := HVmx
  clear HVmx
  have HVbx := Lib.hid (HVb.out.below hb (Nat.le_refl _))
  clear HVb
  have HVb := HVbx
  clear HVbx
  have HVkx := Lib.hid (HVk.out.below hb (Nat.le_refl _))
  clear HVk
  have HVk := HVkx
  clear HVkx
  have HVtx := Lib.hid (HVt.out.below hb (Nat.le_refl _))
  clear HVt
  have HVt := HVtx
  clear HVtx
  have HI1x := Lib.hid (HI1.out.below hb (Nat.le_refl _))
  clear HI1
  have HI1 := HI1x
  clear HI1x
  have HI2x := Lib.hid (HI2.out.below hb (Nat.le_refl _))
  clear HI2
  have HI2 := HI2x
  clear HI2x
  have HI3x := Lib.hid (HI3.out.below hb (Nat.le_refl _))
  clear HI3
  have HI3 := HI3x
  clear HI3x
  clear hb U9 HB8
  have U10 := free_any A3 N3 c3 (l ++ r) W9 HVb.out HN3b.out HEb.out
  rw [HUb.out] at U10
  go_wp2_with fail
  refine U10.mono ?_
  rintro e W10 ⟨rfl, hb⟩
  have HB10 := Lib.hid (HB9.out.trans (hb.mono HB9.out.size))
  have HVlx := Lib.hid (HVl.out.below hb (Nat.le_refl _))
  clear HVl
  have HVl := HVlx
  clear HVlx
  have HVmx := Lib.hid (HVm.out.below hb (Nat.le_refl _))
  clear HVm
  have HVm := HVmx
  clear HVmx
  have HVbx := Lib.hid (HVb.out.below hb (Nat.le_refl _))
  clear HVb
  have HVb := HVbx
  clear HVbx
  have HVkx := Lib.hid (HVk.out.below hb (Nat.le_refl _))
  clear HVk
  have HVk := HVkx
  clear HVkx
  have HVtx := Lib.hid (HVt.out.below hb (Nat.le_refl _))
  clear HVt
  have HVt := HVtx
  clear HVtx
  have HI1x := Lib.hid (HI1.out.below hb (Nat.le_refl _))
  clear HI1
  have HI1 := HI1x
  clear HI1x
  have HI2x := Lib.hid (HI2.out.below hb (Nat.le_refl _))
  clear HI2
  have HI2 := HI2x
  clear HI2x
  have HI3x := Lib.hid (HI3.out.below hb (Nat.le_refl _))
  clear HI3
  have HI3 := HI3x
  clear HI3x
  clear hb U10 HB9
  have U11 := keepints_any V V Q1 Q2 nv nv q1 q2 W10 HI1.out HI2.out (by have := HNV.out; have := HVN.out; omega)
  rw [decide_eq_true rfl] at U11
  go_wp2_with fail
  refine U11.mono ?_
  rintro e W11 ⟨rfl, hb⟩
  have HB11 := Lib.hid (HB10.out.trans (hb.mono HB10.out.size))
  have HVlx := Lib.hid (HVl.out.below hb (Nat.le_refl _))
  clear HVl
  have HVl := HVlx
  clear HVlx
  have HVmx := Lib.hid (HVm.out.below hb (Nat.le_refl _))
  clear HVm
  have HVm := HVmx
  clear HVmx
  have HVbx := Lib.hid (HVb.out.below hb (Nat.le_refl _))
  clear HVb
  have HVb := HVbx
  clear HVbx
  have HVkx := Lib.hid (HVk.out.below hb (Nat.le_refl _))
  clear HVk
  have HVk := HVkx
  clear HVkx
  have HVtx := Lib.hid (HVt.out.below hb (Nat.le_refl _))
  clear HVt
  have HVt := HVtx
  clear HVtx
  have HI1x := Lib.hid (HI1.out.below hb (Nat.le_refl _))
  clear HI1
  have HI1 := HI1x
  clear HI1x
  have HI2x := Lib.hid (HI2.out.below hb (Nat.le_refl _))
  clear HI2
  have HI2 := HI2x
  clear HI2x
  have HI3x := Lib.hid (HI3.out.below hb (Nat.le_refl _))
  clear HI3
  have HI3 := HI3x
  clear HI3x
  clear hb U11 HB10
  have U12 := keepints_any V V Q1 Q3 nv nv q1 q3 W11 HI1.out HI3.out (by have := HNV.out; have := HVN.out; omega)
  rw [decide_eq_true rfl] at U12
  go_wp2_with fail
  refine U12.mono ?_
  rintro e W12 ⟨rfl, hb⟩
  have HB12 := Lib.hid (HB11.out.trans (hb.mono HB11.out.size))
  have HVlx := Lib.hid (HVl.out.below hb (Nat.le_refl _))
  clear HVl
  have HVl := HVlx
  clear HVlx
  have HVmx := Lib.hid (HVm.out.below hb (Nat.le_refl _))
  clear HVm
  have HVm := HVmx
  clear HVmx
  have HVbx := Lib.hid (HVb.out.below hb (Nat.le_refl _))
  clear HVb
  have HVb := HVbx
  clear HVbx
  have HVkx := Lib.hid (HVk.out.below hb (Nat.le_refl _))
  clear HVk
  have HVk := HVkx
  clear HVkx
  have HVtx := Lib.hid (HVt.out.below hb (Nat.le_refl _))
  clear HVt
  have HVt := HVtx
  clear HVtx
  have HI1x := Lib.hid (HI1.out.below hb (Nat.le_refl _))
  clear HI1
  have HI1 := HI1x
  clear HI1x
  have HI2x := Lib.hid (HI2.out.below hb (Nat.le_refl _))
  clear HI2
  have HI2 := HI2x
  clear HI2x
  have HI3x := Lib.hid (HI3.out.below hb (Nat.le_refl _))
  clear HI3
  have HI3 := HI3x
  clear HI3x
  clear hb U12 HB11
  go_wp2_with fail
  refine (plwakes_any W12).mono ?_
  rintro x9 w99 ⟨rfl, hb9⟩
  go_wp2_with fail
  go_ret
  exact ⟨rfl, HB12.out.trans (hb9.mono HB12.out.size)⟩
end Go.Proofs.Ytkfccdjeohbngaa
