/- The statement PoolTells: its walk. -/
import Derived.Test.YtkfccdjeohbngaaPoolFair
import Derived.Test.YtkfccdjeohbngaaPoolWakes
import Derived.Test.YtkfccdjeohbngaaPoolRef
import Derived.Test.YtkfccdjeohbngaaPoolOwn
import Derived.Test.YtkfccdjeohbngaaKeepVols
set_option maxRecDepth 4000
namespace Go.Proofs.Ytkfccdjeohbngaa
open Go Go.RowKit
set_option maxHeartbeats 3200000 in
theorem pltells_walk (A : Option Addr) (n c : Nat) (l : List Vl) (z : Int) (w : World) (h : VolsAt w (.slice A n c) l) (hn : n ≤ maxLen) (hz : -9223372036854775808 ≤ z ∧ z < 9223372036854775808) :
    Calls Try.prog 3 #[.slice A n c, .int .i64 z] w fun e w' => e = .returned (.bool true) ∧ Below w.heap.size w w' := by
  go_enter Try.func3, Try.ntmps3
  go_wp2_with fail
  refine (fairV_any A n c l w h hn).mono ?_
  rintro e w2 ⟨rfl, rfl⟩
  cases hfl : fairV l with
  | false =>
    go_wp2_with fail
    refine (plwakes_any w).mono ?_
    rintro x9 w99 ⟨rfl, hb9⟩
    go_wp2_with fail
    go_ret
    exact ⟨rfl, (Below.refl w.heap.size w).trans (hb9.mono (Below.refl w.heap.size w).size)⟩
  | true =>
  have HLN : Hid (l.length ≤ 20) := Lib.hid (fairV_len hfl)
  have HEL := Lib.hid (fairV_each hfl)
  have HEb : Hid (∀ x ∈ l, x.2.length ≤ 1000000) := Lib.hid fun y hy => Nat.le_trans (HEL.out y hy) (by omega)
  have HMl : Hid (l.length = n) := Lib.hid (vols_len h)
  have HN20 : Hid (n ≤ 20) := Lib.hid (by have := HMl.out; have := HLN.out; omega)
  have HVl := Lib.hid h
  have HZ := Lib.hid hz
  clear hfl h hn hz
  have O1 := ownvols_any A n c l w HVl.out (by have := HN20.out; omega) HEb.out
  go_wp2_with fail
  refine O1.mono ?_
  rintro e W1 ⟨v1, rfl, ov, hb⟩
  obtain ⟨A3, N3, c3, rfl, hN3, _⟩ := OV.form2 ov
  have HVi := Lib.hid (ov.vols (by have := HLN.out; unfold maxLen; omega))
  have HNi : Hid (N3 ≤ 20) := Lib.hid (by have := HLN.out; omega)
  have HB1 := Lib.hid hb
  have HVlx := Lib.hid (HVl.out.below hb (Nat.le_refl _))
  clear HVl
  have HVl := HVlx
  clear HVlx
  clear ov hN3 hb O1
  obtain ⟨u, hu⟩ : ∃ u, usedV l = u := ⟨_, rfl⟩
  obtain ⟨V, hV⟩ : ∃ V, takeV u z = V := ⟨_, rfl⟩
  obtain ⟨Er, hEr⟩ : ∃ Er, takeE u z = Er := ⟨_, rfl⟩
  obtain ⟨nf, hnf⟩ : ∃ nf, (freeL u).length = nf := ⟨_, rfl⟩
  have HU := Lib.hid hu
  have HVV := Lib.hid hV
  have HEE := Lib.hid hEr
  have HNF := Lib.hid hnf
  have HVB : Hid (∀ y ∈ V, -9223372036854775808 ≤ y ∧ y < 9223372036854775808) := Lib.hid fun y hy => by
    have := takeV_bound u z y (by rw [hV]; exact hy)
    omega
  have HVN : Hid (V.length ≤ 12) := Lib.hid (by rw [← hV]; exact takeV_len u z)
  obtain ⟨nv, hnv⟩ : ∃ nv, V.length = nv := ⟨_, rfl⟩
  have HNV := Lib.hid hnv
  clear hu hV hEr hnv hnf
  have T2 := take_any z A3 N3 c3 l W1 HVi.out (by have := HN20.out; have := HNi.out; omega) HEb.out HZ.out
  rw [HU.out, HVV.out, HEE.out, HNV.out] at T2
  go_wp2_with fail
  refine T2.mono ?_
  rintro e W2 ⟨v2, rfl, ho, hb⟩
  obtain ⟨Q2, q2, rfl, _⟩ := own_slice_form ho
  have hia := ints_own ho HVB.out
  have HB2 := Lib.hid (HB1.out.trans (hb.mono HB1.out.size))
  have HVlx := Lib.hid (HVl.out.below hb (Nat.le_refl _))
  clear HVl
  have HVl := HVlx
  clear HVlx
  have HVix := Lib.hid (HVi.out.below hb (Nat.le_refl _))
  clear HVi
  have HVi := HVix
  clear HVix
  have HI2 := Lib.hid hia
  clear ho hia hb T2 HB1
  have T3 := reftake_any z A n c l W2 HVl.out (by have := HN20.out; have := HNi.out; omega) HEb.out
  rw [HU.out, HVV.out, HEE.out, HNV.out] at T3
  go_wp2_with fail
  refine T3.mono ?_
  rintro e W3 ⟨v3, rfl, ho, hb⟩
  obtain ⟨Q3, q3, rfl, _⟩ := own_slice_form ho
  have hia := ints_own ho HVB.out
  have HB3 := Lib.hid (HB2.out.trans (hb.mono HB2.out.size))
  have HVlx := Lib.hid (HVl.out.below hb (Nat.le_refl _))
  clear HVl
  have HVl := HVlx
  clear HVlx
  have HVix := Lib.hid (HVi.out.below hb (Nat.le_refl _))
  clear HVi
  have HVi := HVix
  clear HVix
  have HI2x := Lib.hid (HI2.out.below hb (Nat.le_refl _))
  clear HI2
  have HI2 := HI2x
  clear HI2x
  have HI3 := Lib.hid hia
  clear ho hia hb T3 HB2
  have U4 := used_any A3 N3 c3 l W3 HVi.out (by have := HN20.out; have := HNi.out; omega) HEb.out
  rw [HU.out] at U4
  go_wp2_with fail
  refine U4.mono ?_
  rintro e W4 ⟨rfl, hb⟩
  have HB4 := Lib.hid (HB3.out.trans (hb.mono HB3.out.size))
  have HVlx := Lib.hid (HVl.out.below hb (Nat.le_refl _))
  clear HVl
  have HVl := HVlx
  clear HVlx
  have HVix := Lib.hid (HVi.out.below hb (Nat.le_refl _))
  clear HVi
  have HVi := HVix
  clear HVix
  have HI2x := Lib.hid (HI2.out.below hb (Nat.le_refl _))
  clear HI2
  have HI2 := HI2x
  clear HI2x
  have HI3x := Lib.hid (HI3.out.below hb (Nat.le_refl _))
  clear HI3
  have HI3 := HI3x
  clear HI3x
  clear hb U4 HB3
  have U5 := refused_any A n c l W4 HVl.out (by have := HN20.out; have := HNi.out; omega) HEb.out
  rw [HU.out] at U5
  go_wp2_with fail
  refine U5.mono ?_
  rintro e W5 ⟨rfl, rfl⟩
  obtain ⟨W5, hW5⟩ : ∃ W5, W4 = W5 := ⟨_, rfl⟩
  subst hW5
  have HB5 := Lib.hid HB4.out
  clear U5 HB4
  have U6 := free_any A3 N3 c3 l W4 HVi.out (by have := HN20.out; have := HNi.out; omega) HEb.out
  rw [HU.out, HNF.out] at U6
  go_wp2_with fail
  refine U6.mono ?_
  rintro e W6 ⟨rfl, hb⟩
  have HB6 := Lib.hid (HB5.out.trans (hb.mono HB5.out.size))
  have HVlx := Lib.hid (HVl.out.below hb (Nat.le_refl _))
  clear HVl
  have HVl := HVlx
  clear HVlx
  have HVix := Lib.hid (HVi.out.below hb (Nat.le_refl _))
  clear HVi
  have HVi := HVix
  clear HVix
  have HI2x := Lib.hid (HI2.out.below hb (Nat.le_refl _))
  clear HI2
  have HI2 := HI2x
  clear HI2x
  have HI3x := Lib.hid (HI3.out.below hb (Nat.le_refl _))
  clear HI3
  have HI3 := HI3x
  clear HI3x
  clear hb U6 HB5
  have U7 := reffree_any A n c l W6 HVl.out (by have := HN20.out; have := HNi.out; omega) HEb.out
  rw [HU.out, HNF.out] at U7
  go_wp2_with fail
  refine U7.mono ?_
  rintro e W7 ⟨rfl, hb⟩
  have HB7 := Lib.hid (HB6.out.trans (hb.mono HB6.out.size))
  have HVlx := Lib.hid (HVl.out.below hb (Nat.le_refl _))
  clear HVl
  have HVl := HVlx
  clear HVlx
  have HVix := Lib.hid (HVi.out.below hb (Nat.le_refl _))
  clear HVi
  have HVi := HVix
  clear HVix
  have HI2x := Lib.hid (HI2.out.below hb (Nat.le_refl _))
  clear HI2
  have HI2 := HI2x
  clear HI2x
  have HI3x := Lib.hid (HI3.out.below hb (Nat.le_refl _))
  clear HI3
  have HI3 := HI3x
  clear HI3x
  clear hb U7 HB6
  have U8 := keepints_any V V Q2 Q3 nv nv q2 q3 W7 HI2.out HI3.out (by have := HNV.out; have := HVN.out; omega)
  rw [decide_eq_true rfl] at U8
  go_wp2_with fail
  refine U8.mono ?_
  rintro e W8 ⟨rfl, hb⟩
  have HB8 := Lib.hid (HB7.out.trans (hb.mono HB7.out.size))
  have HVlx := Lib.hid (HVl.out.below hb (Nat.le_refl _))
  clear HVl
  have HVl := HVlx
  clear HVlx
  have HVix := Lib.hid (HVi.out.below hb (Nat.le_refl _))
  clear HVi
  have HVi := HVix
  clear HVix
  have HI2x := Lib.hid (HI2.out.below hb (Nat.le_refl _))
  clear HI2
  have HI2 := HI2x
  clear HI2x
  have HI3x := Lib.hid (HI3.out.below hb (Nat.le_refl _))
  clear HI3
  have HI3 := HI3x
  clear HI3x
  clear hb U8 HB7
  have U9 := keepvols_any l l A3 A N3 n c3 c W8 HVi.out HVl.out (by have := HNi.out; omega) (by have := HN20.out; omega) HEb.out
  rw [decide_eq_true rfl] at U9
  go_wp2_with fail
  refine U9.mono ?_
  rintro e W9 ⟨rfl, hb⟩
  have HB9 := Lib.hid (HB8.out.trans (hb.mono HB8.out.size))
  clear hb U9 HB8
  go_wp2_with fail
  refine (plwakes_any W9).mono ?_
  rintro x9 w99 ⟨rfl, hb9⟩
  go_wp2_with fail
  go_ret
  exact ⟨rfl, HB9.out.trans (hb9.mono HB9.out.size)⟩
end Go.Proofs.Ytkfccdjeohbngaa
