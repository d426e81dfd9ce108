/- The document's sector of a mark and a body. -/
import Derived.Test.YtmghacgifokbhaaSealRef
import Derived.Test.YtmghacgifokbhaaZerosB
import Derived.Test.YtmghacgifokbhaaPhs
import Derived.Test.YtmghacgifokbhaaBlk
import Derived.Deep.Cut
set_option maxRecDepth 4000
namespace Go.Proofs.Ytmghacgifokbhaa
open Go Go.RowKit
theorem encB_bad {m : BitVec 8} {q : List (BitVec 8)} (h : encBad m q = true) : encB m q = blk 0#8 := by unfold encB; rw [if_pos h]; rfl
theorem encE_bad {m : BitVec 8} {q : List (BitVec 8)} (h : encBad m q = true) : encE m q = 1 := by unfold encE; rw [if_pos h]
theorem encB_good {m : BitVec 8} {q : List (BitVec 8)} (h : encBad m q = false) : encB m q = sealedB m q := by unfold encB; rw [h]; rfl
theorem encE_good {m : BitVec 8} {q : List (BitVec 8)} (h : encBad m q = false) : encE m q = 0 := by unfold encE; rw [h]; rfl
theorem bd_zero_iff (m : BitVec 8) : (bd m == 0) = decide (m = 0#8) := by
  by_cases h : m = 0#8
  · subst h; rfl
  · rw [decide_eq_false h]
    exact beq_eq_false_iff_ne.2 fun e => h (bd_inj (by rw [e]; rfl))
structure EncAt (w W : World) (g4 g7 : Nat) (v6 : Value) (p : List (BitVec 8)) : Prop where
  r4 : Row W g4 27 (bs (blk 0#8))
  r7 : Row W g7 27 (bs (blk 0#8))
  it : Item W v6 p
  below : Below w.heap.size w W
  lo4 : w.heap.size ≤ g4
  lo7 : w.heap.size ≤ g7
  ne : g4 ≠ g7
theorem encAt_stays {w W W' : World} {g4 g7 : Nat} {v6 : Value} {p : List (BitVec 8)} (h : EncAt w W g4 g7 v6 p) (k : Same W W') : EncAt w W' g4 g7 v6 p :=
  ⟨h.r4.call k, h.r7.call k, h.it.below k (Nat.le_refl _), h.below.trans (k.mono h.below.size), h.lo4, h.lo7, h.ne⟩
structure EncDone (w W : World) (g4 g7 : Nat) (b : List (BitVec 8)) : Prop where
  r4 : Row W g4 27 (bs (blk 0#8))
  r7 : Row W g7 27 (bs b)
  below : Below w.heap.size w W
theorem encDone_stays {w W W' : World} {g4 g7 : Nat} {b : List (BitVec 8)} (h : EncDone w W g4 g7 b) (k : Same W W') : EncDone w W' g4 g7 b :=
  ⟨h.r4.call k, h.r7.call k, h.below.trans (k.mono h.below.size)⟩
theorem spl_all (p b : List (BitVec 8)) (h : p.length = b.length) : spl p 0 b = b := by
  unfold spl
  rw [List.take_zero, List.nil_append, Nat.zero_add, List.drop_of_length_le (by omega), List.append_nil]
theorem own_item {w : World} {base : Nat} {v : Value} {q : List (BitVec 8)} (h : w.ownsRow base 5 1 v q.length (bytesV q)) (hq : q.length ≤ maxLen) : Item w v q := by
  have hS := own_slice h
  obtain ⟨A, c, rfl, h1, h2⟩ := hS
  refine ⟨A, c, rfl, ⟨A, c, rfl, h1, h2⟩, ?_, hq⟩
  rintro rfl
  rcases h.2 with ⟨e, _⟩ | ⟨g, cap, cur, e, _⟩
  · injection e
  · injection e with e; cases e
set_option maxRecDepth 20000 in
set_option maxHeartbeats 1600000 in
theorem refenc_any (m : BitVec 8) (q : List (BitVec 8)) (v : Value) (w : World) (hv : Item w v q) :
    Calls Try.prog 24 #[.int .u8 (bd m), v] w fun e w' => e = .returned (.tuple #[.agg (bs (encB m q)), .int .i64 (encE m q)]) ∧ Below w.heap.size w w' := by
  obtain ⟨A, c, rfl, hS, hA, hm⟩ := hv
  obtain ⟨n, hn⟩ : ∃ n, q.length = n := ⟨_, rfl⟩
  have HN := Lib.hid hn
  have hb1 := (Below.refl w.heap.size w).alloc (Nat.le_refl _) (.cells (bs (blk 0#8)) 27)
  have hz := zeros_blk
  have H0 : Hid ((bs (blk 0#8)).size = 32) := Lib.hid (by rw [size_bs]; exact length_blk _)
  have rz := Row.fresh w 27 (bs (blk 0#8))
  have hB : encBad m q = (decide (m = 0#8) || decide (29 < q.length)) := rfl
  rw [hn] at hB hS hm ⊢
  by_cases h0 : m = 0#8
  · have hbad : encBad m q = true := by rw [hB, decide_eq_true h0]; rfl
    have hd : (bd m == 0) = true := by rw [bd_zero_iff, decide_eq_true h0]
    clear hn h0
    clear hS hA hm hB
    have e1 := Lib.hid (encB_bad hbad)
    have e2 := Lib.hid (encE_bad hbad)
    clear hbad
    go_enter Try.func24, Try.ntmps24
    go_wp2_with (first | (refine wpList_store_row rfl 27 _ _ rfl w.heap.size (bs (blk 0#8)) rfl rfl 27 _ rz (by rw [H0.out]; exact size_blk) rfl (one_bs _) ?_))
    exact bodyPost_ret (v := .tuple #[.agg (bs (blk 0#8)), .int .i64 1]) (results_cell_tmp Try.results24 _ _ w.heap.size 27 (bs (blk 0#8)) (0, 0) _ rfl (rz.setRow _) Try.underlying27 rfl (by rw [H0.out]; exact size_blk)) rfl ⟨by rw [e1.out, e2.out], below_setRow hb1 (Nat.le_refl _) _⟩
  by_cases h29 : 29 < n
  · have hbad : encBad m q = true := by rw [hB, decide_eq_true h29, Bool.or_true]
    have hd : (bd m == 0) = false := by rw [bd_zero_iff, decide_eq_false h0]
    have hd2 : decide ((29 : Int) < (n : Int)) = true := decide_eq_true (by omega)
    clear hn h0 h29
    clear hS hA hm hB
    have e1 := Lib.hid (encB_bad hbad)
    have e2 := Lib.hid (encE_bad hbad)
    clear hbad
    go_enter Try.func24, Try.ntmps24
    go_wp2_with (first | (refine wpList_store_row rfl 27 _ _ rfl w.heap.size (bs (blk 0#8)) rfl rfl 27 _ rz (by rw [H0.out]; exact size_blk) rfl (one_bs _) ?_))
    exact bodyPost_ret (v := .tuple #[.agg (bs (blk 0#8)), .int .i64 1]) (results_cell_tmp Try.results24 _ _ w.heap.size 27 (bs (blk 0#8)) (0, 0) _ rfl (rz.setRow _) Try.underlying27 rfl (by rw [H0.out]; exact size_blk)) rfl ⟨by rw [e1.out, e2.out], below_setRow hb1 (Nat.le_refl _) _⟩
  have hgood : encBad m q = false := by rw [hB, decide_eq_false h0, decide_eq_false h29]; rfl
  have HEB := Lib.hid (encB_good hgood)
  have HEE := Lib.hid (encE_good hgood)
  have HP30 : Hid ((pad30 m q).length = 30) := Lib.hid (length_pad30 (by omega))
  have HS32 : Hid ((sealedB m q).length = 32) := Lib.hid (length_sealedB (by omega))
  have HPB : Hid (bytesV (pad30 m q) = [.int .u8 (bd m)] ++ bytesV q ++ bytesV (zer (29 - n))) := Lib.hid (by rw [← hn]; simp [pad30, bytesV, zer])
  have HA := Lib.hid hA
  have hd : (bd m == 0) = false := by rw [bd_zero_iff, decide_eq_false h0]
  have hd2 : decide ((29 : Int) < (n : Int)) = false := decide_eq_false (by omega)
  have hn29 : n ≤ 29 := by omega
  have HSw := Lib.hid hS
  clear hn h0 h29 hgood hB hA hm hS
  go_enter Try.func24, Try.ntmps24
  go_upto_region 3 with fail
  clear hd hd2
  have HR4 := Lib.hid rz
  have HB1 := Lib.hid hb1
  obtain ⟨g4, hg4⟩ : ∃ g4, w.heap.size = g4 := ⟨_, rfl⟩
  have HG4 : Hid (w.heap.size ≤ g4) := Lib.hid (Nat.le_of_eq hg4)
  generalize w.alloc (.cells (bs (blk 0#8)) 27) = w1 at *
  rw [hg4] at HR4
  rw [hg4]
  have hlt4 : g4 < w1.heap.size := HR4.out.lt
  have O1 : Hid ((w1.alloc (.cells #[.int .u8 (bd m)] 5)).ownsRow w1.heap.size 5 1 (.slice (some ⟨w1.heap.size, 0, none⟩) 1 1) 1 [.int .u8 (bd m)]) := Lib.hid (own_built w1 [m] (by simp [maxLen]))
  have HS1 := Lib.hid (Slice.below HSw.out (HB1.out.alloc HB1.out.size (.cells #[.int .u8 (bd m)] 5)) (Nat.le_refl _))
  clear rz hb1 hg4
  have HLT4 := Lib.hid hlt4
  clear hlt4
  go_wp2_with (first | (at_builtin; refine wpList_append_slice rfl (.tmp 17) (.tmp 18) rfl w1.heap.size _ 1 [.int .u8 (bd m)] rfl O1.out A n c q rfl HS1.out HA.out (by omega) (by simp) ?_; intro v6 w6 own6 hb6; obtain ⟨A6, c6, rfl, hc6⟩ := own_slice_form own6; have HO6 := Lib.hid own6; have HB6 := Lib.hid (((Below.refl w1.heap.size w1).alloc (Nat.le_refl _) (.cells #[.int .u8 (bd m)] 5)).trans hb6); clear own6 hb6 hc6) | (at_builtin; refine wpList_append_zeros rfl (.tmp 20) (.tmp 23) rfl w1.heap.size _ (1 + n) _ rfl HO6.out _ (29 - n) rfl (by omega) (by omega) HB6.out.size ?_; intro v8 w8 own8 hb8; have HO8 := Lib.hid own8; have HB8 := Lib.hid (HB6.out.trans hb8); clear own8 hb8))
  have HE : Hid (EncAt w (w8.alloc (.cells (bs (blk 0#8)) 27)) g4 w8.heap.size v8 (pad30 m q)) := Lib.hid (by
    have h1 := HR4.out.call HB8.out
    have h2 : w8.ownsRow w1.heap.size 5 1 v8 (pad30 m q).length (bytesV (pad30 m q)) := by
      rw [HPB.out, HP30.out, show 30 = 1 + n + (29 - n) by omega]; exact HO8.out
    have h3 : Below w.heap.size w w8 := HB1.out.trans (HB8.out.mono HB1.out.size)
    exact ⟨h1.alloc _, Row.fresh _ _ _, (own_item h2 (by rw [HP30.out]; decide)).below (Same.alloc _ _) (Nat.le_refl _), h3.alloc h3.size _, HG4.out, h3.size, Nat.ne_of_lt h1.lt⟩)
  clear HO6 HB6 HO8 HB8 HSw HS1 O1 HR4 HB1
  obtain ⟨g7, hg7⟩ : ∃ g7, w8.heap.size = g7 := ⟨_, rfl⟩
  rw [hg7] at HE
  rw [hg7]
  generalize w8.alloc (.cells (bs (blk 0#8)) 27) = W8 at *
  clear hg7 hn29
  have hF0 : Wl [fun W => EncAt w W g4 g7 v8 (pad30 m q), fun W => EncDone w W g4 g7 (sealedB m q)] 0 W8.drew := encAt_stays HE.out (Below.refl _ _).drew
  refine wp_region_phs [is (.slice (some ⟨g7, 0, none⟩) 32 32), is (v8), sl (sealedB m q), anyV] [true, true, false, true] [(fun W => EncAt w W g4 g7 v8 (pad30 m q)), (fun W => EncDone w W g4 g7 (sealedB m q))] [false, false, false, true] [some 0, some 0, some 0, some 0] [some 25, some 26, some 27, some 28] 4 1 (fun _ => true) rfl rfl (by kernel_rfl) (by kernel_rfl) (by kernel_rfl) (by kernel_rfl) ?_ ?_ ?_ ?_ ?_ ?_
  · repeat first | exact wok_nil | refine wok_cons (by first | exact fun _ _ h k => encAt_stays h k | exact fun _ _ h k => encDone_stays h k) ?_
  · repeat first | exact vok_nil | refine vok_rig (by first | exact fun _ _ _ h => h) ?_ | refine vok_soft (by first | exact fun _ _ _ h _ => h | exact fun _ _ _ h k => Slice.below h k (Nat.le_refl _)) ?_
  · exact hF0
  · repeat first | exact all_end (by decide) | refine all_cons (by first | exact rfl | exact ⟨rfl, fun _ _ h => Or.inl h⟩ | exact ⟨rfl, fun _ _ h => Or.inr ⟨h, rfl⟩⟩) ?_
  · refine allp_mild 0 rfl rfl rfl (fun a x W hout hin hP => ?_) ?_
    · have e7 : a.tmps[7]? = some (.pointer (some ⟨g7, 0, none⟩)) := (hout 7 (by kernel_rfl)).trans rfl
      clear hin hout
      intro K Q hK
      go_simp
      exact hK _ _ ⟨Same.refl _, rfl⟩
    refine allp_mild 0 rfl rfl rfl (fun a x W hout hin hP => ?_) ?_
    · have e6 : a.tmps[6]? = some (v8) := (hout 6 (by kernel_rfl)).trans rfl
      exact does_move rfl e6 ⟨Same.refl _, rfl⟩
    refine allp_mild 0 rfl rfl rfl (fun a x W hout hin hP => ?_) ?_
    · have e26 := hin.is 1 26 (by kernel_rfl) (by decide) (by kernel_rfl) (by kernel_rfl) _ rfl
      have C := refsealed_any (pad30 m q) v8 W hP.it (by rw [HP30.out]; decide)
      clear hin hout hP
      intro K Q hK
      go_simp
      refine C.mono ?_
      rintro e W' ⟨v', rfl, own, hb⟩
      exact hK _ _ ⟨hb, own_slice own⟩
    refine allp_wild 0 rfl rfl rfl (fun a x W hout hin hP => ?_) ?_
    · have e25 := hin.is 0 25 (by kernel_rfl) (by decide) (by kernel_rfl) (by kernel_rfl) _ rfl
      obtain ⟨v27, e27, hv27⟩ := hin.get 2 27 (by kernel_rfl) (by decide) (by kernel_rfl) (.inr ⟨rfl, by kernel_rfl⟩)
      clear hin hout
      intro K Q hK
      refine wp_copy_any (.tmp 25) (.tmp 27) rfl g7 0 32 32 (eval_of_get e25) v27 (eval_of_get e27) (sealedB m q) hv27 27 (bs (blk 0#8)) hP.r7 (by rw [size_bs, length_blk, HS32.out]; exact Nat.le_refl _) (by rw [HS32.out]; exact Nat.le_refl _) ?_
      intro W' r7 hg
      rw [spl_bs, spl_all _ _ ((length_blk 0#8).trans HS32.out.symm)] at r7
      exact hK _ _ ⟨⟨hP.r4.only hg hP.ne, r7, hP.below.trans (only_below hg hP.lo7 hP.below.size)⟩, trivial⟩
    exact all_end (by decide)
  · intro x W hP hV
    clear hV
    obtain ⟨r4, r7, hbW⟩ : EncDone w W g4 g7 (sealedB m q) := hP
    simp only [putL, Act.put, List.setIfInBounds_toArray, List.set_cons_succ, List.set_cons_zero]
    refine wpAnyH_done (by kernel_rfl) ?_ _
    have rr := row_range r7 (Below.refl W.heap.size W) r7.lt
    go_wp2_with (first | (refine wpList_load_mid rfl 27 _ rfl g7 0 rfl (bs (sealedB m q)).toList _ rr Try.underlying27 rfl (by rw [len_bs, HS32.out]; exact size_blk) ?_) | (refine wpList_store_row rfl 27 _ _ rfl g4 (bs (sealedB m q)) rfl rfl 27 _ r4 (by rw [size_bs, HS32.out]; exact size_blk) (by rw [size_bs, size_bs, length_blk, HS32.out]) (one_bs _) ?_))
    exact bodyPost_ret (v := .tuple #[.agg (bs (sealedB m q)), .int .i64 0]) (results_cell_tmp Try.results24 _ _ g4 27 (bs (sealedB m q)) (0, 0) _ rfl (r4.setRow _) Try.underlying27 rfl (by rw [size_bs, HS32.out]; exact size_blk)) rfl ⟨by rw [HEB.out, HEE.out], below_setRow hbW HG4.out _⟩
end Go.Proofs.Ytmghacgifokbhaa
