/- The statement SealCodes: its walk. -/
import Derived.Test.YtmfhlgmgfflbkaaSealIf
namespace Go.Proofs.Ytmfhlgmgfflbkaa
open Go Go.RowKit
theorem size_29 : (Try.prog.info? 31).map (·.size) = some 29 := by kernel_rfl
theorem eql_29 (p q : List (BitVec 8)) (hp : p.length = 29) (hq : q.length = 29) (w : World) : (Op.equalIn 10000 31 (.agg (bs p)) (.agg (bs q))).run Try.prog w = .ok (decide (p = q)) w := equal_bytes _ 29 p q hp hq Try.underlying31 w
theorem row_drop {w : World} {g : Nat} {t : TypeId} {q : List (BitVec 8)} (h : Row w g t (bs q)) (k : Nat) : w.rangeAt g k (bs (q.drop k)).toList := fun j v hv => by
  rw [bs_toList] at hv
  simp only [bytesV, List.getElem?_map, List.getElem?_drop, Option.map_eq_some_iff] at hv
  obtain ⟨x, hx, rfl⟩ := hv
  exact h.get (by simp [bs, hx])
theorem got_c0 {w : World} {g : Nat} {t : TypeId} {q : List (BitVec 8)} {e : Int} (h : Row w g t (gotCells q e)) (hq : q.length = 30) : w.cell? ⟨g, 0, none⟩ = some (.int .u8 (bd (q.getD 0 0#8))) :=
  h.get (by cases q with
    | nil => simp at hq
    | cons x q => simp [gotCells, bytesV])
theorem got_body {w : World} {g : Nat} {t : TypeId} {q : List (BitVec 8)} {e : Int} (h : Row w g t (gotCells q e)) (hq : q.length = 30) : w.rangeAt g 1 (bs (q.drop 1)).toList := fun j v hv => by
  rw [bs_toList] at hv
  have hj : j < 29 := by have := (List.getElem?_eq_some_iff.1 hv).1; rw [len_bytesV, List.length_drop, hq] at this; exact this
  simp only [bytesV, List.getElem?_map, List.getElem?_drop, Option.map_eq_some_iff] at hv
  obtain ⟨x, hx, rfl⟩ := hv
  refine h.get ?_
  unfold gotCells
  rw [List.getElem?_toArray, List.getElem?_append_left (by rw [len_bytesV, hq]; omega)]
  simp [bytesV, hx]
set_option maxRecDepth 20000 in
set_option maxHeartbeats 1600000 in
theorem scodes_walk (D : SealOps) (m : BitVec 8) (A : Option Addr) (c : Nat) (q : List (BitVec 8)) (b : List (BitVec 8)) (w : World) (hS : Slice w (.slice A q.length c) q) (hA : A = none → c = 0) (hm : q.length ≤ maxLen) (hb : b.length = 32) :
    Calls Try.prog 3 #[.int .u8 (bd m), .slice A q.length c, .agg (bs b)] w fun e w' => e = .returned (.bool true) ∧ Below w.heap.size w w' := by
  have HI : Hid (Item w (.slice A q.length c) q) := Lib.hid ⟨A, c, rfl, hS, hA, hm⟩
  obtain ⟨n, hn⟩ : ∃ n, q.length = n := ⟨_, rfl⟩
  have HN := Lib.hid hn
  have HA := Lib.hid hA
  have HB := Lib.hid hb
  rw [hn] at HI ⊢
  have HB0 := Lib.hid ((Below.refl w.heap.size w).alloc (Nat.le_refl _) (.cells (bs b) 24))
  have RB := Lib.hid (Row.fresh w 24 (bs b))
  clear hS hA hm hb hn
  by_cases hbig : 300 < n
  · have hd : decide ((300 : Int) < (n : Int)) = true := decide_eq_true (by omega)
    go_enter Try.func3, Try.ntmps3
    go_wp2_with fail
    refine (swakes_any D _).mono ?_
    rintro e w1 ⟨rfl, hb1⟩
    go_wp2_with fail
    go_ret
    exact ⟨rfl, HB0.out.trans (hb1.mono HB0.out.size)⟩
  have hd : decide ((300 : Int) < (n : Int)) = false := decide_eq_false (by omega)
  have hn300 : n ≤ 300 := by omega
  go_enter Try.func3, Try.ntmps3
  go_upto_region 3 with fail
  obtain ⟨g0, hg0⟩ : ∃ g0, w.heap.size = g0 := ⟨_, rfl⟩
  rw [hg0] at RB
  rw [hg0]
  clear hg0 hd hbig
  have HI0 := Lib.hid (HI.out.below HB0.out (Nat.le_refl _))
  generalize w.alloc (.cells (bs b) 24) = w0 at *
  have HSa : Hid (Slice (w0.alloc (.cells #[] 5)) (.slice A n c) q) := Lib.hid ((HI0.out.below (Same.alloc w0 _) (Nat.le_refl _)).slice)
  go_wp2_with (first | (at_builtin; refine wpList_append_slice rfl (.tmp 20) (.tmp 21) rfl w0.heap.size _ 0 [] rfl (own_empty w0) A n c q rfl HSa.out HA.out (by omega) (by simp) ?_; intro v4 w4 own4 hb4; simp only [Nat.zero_add, List.nil_append] at own4; have HO4 := Lib.hid own4; have HB4 := Lib.hid ((Same.alloc w0 (.cells #[] 5)).trans hb4); clear own4 hb4))
  have hI4 : Item w4 v4 q := own_item (by rw [HN.out]; exact HO4.out) (by rw [HN.out]; unfold maxLen; omega)
  obtain ⟨X, hX⟩ : ∃ X, encB m q = X := ⟨_, rfl⟩
  obtain ⟨xe, hxe⟩ : ∃ xe, encE m q = xe := ⟨_, rfl⟩
  have HX := Lib.hid hX
  have HXE := Lib.hid hxe
  have HXL : Hid (X.length = 32) := Lib.hid (by rw [← hX]; exact length_encB _ _)
  have C1 := D.enc m q v4 w4 hI4
  rw [hX, hxe] at C1
  have HB04 := Lib.hid (HB0.out.trans (HB4.out.mono HB0.out.size))
  have HI4 := Lib.hid (HI0.out.below HB4.out (Nat.le_refl _))
  have RB4 := Lib.hid (RB.out.call HB4.out)
  clear hX hxe hI4 HB0 HB4 HI0 HSa RB HO4
  refine C1.mono ?_
  rintro e w5 ⟨rfl, hb5⟩
  have HB5 := Lib.hid (HB04.out.trans (hb5.mono HB04.out.size))
  have HI5 := HI4.out.below (hb5.trans ((Same.alloc w5 (.cells (bs X) 24)).mono hb5.size)) (Nat.le_refl _)
  have RB5 := Lib.hid ((RB4.out.call hb5).alloc (.cells (bs X) 24))
  have R5 := Lib.hid (Row.fresh w5 24 (bs X))
  have HBB5 := Lib.hid (HB5.out.alloc HB5.out.size (.cells (bs X) 24))
  have C2 := refenc_any m q _ _ HI5
  rw [HX.out, HXE.out] at C2
  have hz := zeros_blk
  clear C1 hb5 HB04 HI4 RB4 HI5 HB5
  go_wp2_with (first | (refine wpList_store_row rfl 24 _ _ rfl w5.heap.size (bs X) rfl rfl 24 _ (Row.fresh _ _ _) (by rw [size_bs, HXL.out]; exact size_blk) (by rw [size_bs, size_bs, length_blk, HXL.out]) (one_bs _) ?_; rw [World.setRow_alloc_new]))
  obtain ⟨g7, hg7⟩ : ∃ g7, w5.heap.size = g7 := ⟨_, rfl⟩
  rw [hg7] at R5
  rw [hg7]
  clear hg7
  generalize w5.alloc (.cells (bs X) 24) = w6 at *
  refine C2.mono ?_
  rintro e w7 ⟨rfl, hb7⟩
  have HB7 := Lib.hid (HBB5.out.trans (hb7.mono HBB5.out.size))
  have RB7 := Lib.hid ((RB5.out.call hb7).alloc (.cells (bs X) 24))
  have R57 := Lib.hid ((R5.out.call hb7).alloc (.cells (bs X) 24))
  have R7 := Lib.hid (Row.fresh w7 24 (bs X))
  have HBB7 := Lib.hid (HB7.out.alloc HB7.out.size (.cells (bs X) 24))
  have rrb := row_range RB7.out (Below.refl _ _) RB7.out.lt
  clear C2 hb7 HBB5 RB5 R5 HB7
  go_wp2_with (first | (refine wpList_store_row rfl 24 _ _ rfl w7.heap.size (bs X) rfl rfl 24 _ (Row.fresh _ _ _) (by rw [size_bs, HXL.out]; exact size_blk) (by rw [size_bs, size_bs, length_blk, HXL.out]) (one_bs _) ?_; rw [World.setRow_alloc_new]) | (refine wpList_load_mid rfl 24 _ rfl g0 0 rfl (bs b).toList _ rrb Try.underlying24 rfl (by rw [len_bs, HB.out]; exact size_blk) ?_))
  obtain ⟨g9, hg9⟩ : ∃ g9, w7.heap.size = g9 := ⟨_, rfl⟩
  rw [hg9] at R7
  rw [hg9]
  clear hg9 rrb
  generalize w7.alloc (.cells (bs X) 24) = w8 at *
  obtain ⟨R, hR⟩ : ∃ R, decR b = R := ⟨_, rfl⟩
  obtain ⟨re, hre⟩ : ∃ re, decE b = re := ⟨_, rfl⟩
  have HRR := Lib.hid hR
  have HRE := Lib.hid hre
  have HRL : Hid (R.length = 30) := Lib.hid (by rw [← hR]; exact length_decR HB.out)
  have C3 := D.dec b w8 HB.out
  rw [hR, hre] at C3
  clear hR hre
  refine C3.mono ?_
  rintro e w9 ⟨rfl, hb9⟩
  have HB9 := Lib.hid (HBB7.out.trans (hb9.mono HBB7.out.size))
  have RB9 := Lib.hid ((RB7.out.call hb9).alloc (.cells (bs R) 33))
  have R59 := Lib.hid ((R57.out.call hb9).alloc (.cells (bs R) 33))
  have R79 := Lib.hid ((R7.out.call hb9).alloc (.cells (bs R) 33))
  have R9 := Lib.hid (Row.fresh w9 33 (bs R))
  have HBB9 := Lib.hid (HB9.out.alloc HB9.out.size (.cells (bs R) 33))
  have rrb := row_range RB9.out (Below.refl _ _) RB9.out.lt
  clear C3 hb9 HBB7 RB7 R57 R7 HB9
  go_wp2_with (first | (refine wpList_store_row rfl 33 _ _ rfl w9.heap.size (bs R) rfl rfl 33 _ (Row.fresh _ _ _) (by rw [size_bs, HRL.out]; exact size_sec) (by rw [size_bs, HRL.out]; rfl) (one_bs _) ?_; rw [World.setRow_alloc_new]) | (refine wpList_load_mid rfl 24 _ rfl g0 0 rfl (bs b).toList _ rrb Try.underlying24 rfl (by rw [len_bs, HB.out]; exact size_blk) ?_))
  obtain ⟨g11, hg11⟩ : ∃ g11, w9.heap.size = g11 := ⟨_, rfl⟩
  rw [hg11] at R9
  rw [hg11]
  clear hg11 rrb
  generalize w9.alloc (.cells (bs R) 33) = w10 at *
  have C4 := refdec_any b w10 HB.out
  rw [HRR.out, HRE.out] at C4
  refine C4.mono ?_
  rintro e w11 ⟨rfl, hb11⟩
  have HB11 := Lib.hid (HBB9.out.trans (hb11.mono HBB9.out.size))
  have R5e := (R59.out.call hb11).alloc (.cells (gotCells R re) 37)
  have R7e := (R79.out.call hb11).alloc (.cells (gotCells R re) 37)
  have R9e := (R9.out.call hb11).alloc (.cells (gotCells R re) 37)
  have R11 := Row.fresh w11 37 (gotCells R re)
  have HBB11 := Lib.hid (HB11.out.alloc HB11.out.size (.cells (gotCells R re) 37))
  have r5 := row_range R5e (Below.refl _ _) R5e.lt
  have r7 := row_range R7e (Below.refl _ _) R7e.lt
  have c9 := row_at_bs R9e (i := 0) (by rw [HRL.out]; omega) rfl
  have r9 := row_drop R9e 1
  have c11 := got_c0 R11 HRL.out
  have e11 := got_e R11 HRL.out
  have r11 := got_body R11 HRL.out
  have HGS : Hid ((gotCells R re).size = 31) := Lib.hid (size_gotCells HRL.out)
  have HD1 : Hid ((R.drop 1).length = 29) := Lib.hid (by rw [List.length_drop, HRL.out])
  have q1 := eql_blk X X HXL.out HXL.out (w11.alloc (.cells (gotCells R re) 37))
  have q2 := eql_29 (R.drop 1) (R.drop 1) HD1.out HD1.out (w11.alloc (.cells (gotCells R re) 37))
  rw [decide_eq_true rfl] at q1 q2
  generalize R.getD 0 0#8 = x0 at *
  generalize R.drop 1 = R1 at *
  clear C4 hb11 HBB9 RB9 R59 R79 R9 HB11 R5e R7e R9e R11
  go_wp2_with (first | (refine wpList_store_row rfl 37 _ _ rfl w11.heap.size (gotCells R re) rfl rfl 37 _ (Row.fresh _ _ _) (by rw [HGS.out]; exact size_got) (by rw [HGS.out]; rfl) (one_gotCells _ _) ?_; rw [World.setRow_alloc_new]) | (refine wpList_load_mid rfl 24 _ rfl g7 0 rfl (bs X).toList _ r5 Try.underlying24 rfl (by rw [len_bs, HXL.out]; exact size_blk) ?_) | (refine wpList_load_mid rfl 24 _ rfl g9 0 rfl (bs X).toList _ r7 Try.underlying24 rfl (by rw [len_bs, HXL.out]; exact size_blk) ?_) | (refine wpList_guarded (by rfl) (fun K hK => ?_); refine wp_load_mid 31 _ rfl g11 1 rfl (bs R1).toList _ r9 Try.underlying31 rfl (by rw [len_bs, HD1.out]; exact size_29) (hK _ _ ?_)) | (refine wpList_guarded (by rfl) (fun K hK => ?_); refine wp_load_mid 31 _ rfl w11.heap.size 1 rfl (bs R1).toList _ r11 Try.underlying31 rfl (by rw [len_bs, HD1.out]; exact size_29) (hK _ _ ?_)))
  refine (swakes_any D _).mono ?_
  rintro e w12 ⟨rfl, hb12⟩
  go_wp2_with fail
  go_ret
  exact ⟨rfl, HBB11.out.trans (hb12.mono HBB11.out.size)⟩
end Go.Proofs.Ytmfhlgmgfflbkaa
