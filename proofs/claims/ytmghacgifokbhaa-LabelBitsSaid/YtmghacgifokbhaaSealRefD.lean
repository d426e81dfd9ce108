/- The document's mark and body of a sector. -/
import Derived.Test.YtmghacgifokbhaaSealRefE
import Derived.Test.YtmghacgifokbhaaPhA
import Derived.Test.YtmghacgifokbhaaBlkE
set_option maxRecDepth 4000
namespace Go.Proofs.Ytmghacgifokbhaa
open Go Go.RowKit
/- the document's answer of a sector -/
def gotCells (r : List (BitVec 8)) (e : Int) : Array Value := (bytesV r ++ [Value.int .i64 e]).toArray
theorem size_gotCells {r : List (BitVec 8)} {e : Int} (h : r.length = 30) : (gotCells r e).size = 31 := by simp [gotCells, len_bytesV, h]
theorem size_got : (Try.prog.info? 60).map (·.size) = some 31 := by kernel_rfl
theorem one_gotCells (r : List (BitVec 8)) (e : Int) : (gotCells r e).all (·.oneCell') = true := all_oneCell_toArray fun v hv => by
  rcases List.mem_append.1 hv with h | h
  · exact one_bytesV _ v h
  · rw [List.mem_singleton.1 h]; rfl
theorem zeros_got : (#[.int .u8 0, .int .u8 0, .int .u8 0, .int .u8 0, .int .u8 0, .int .u8 0, .int .u8 0, .int .u8 0, .int .u8 0, .int .u8 0, .int .u8 0, .int .u8 0, .int .u8 0, .int .u8 0, .int .u8 0, .int .u8 0, .int .u8 0, .int .u8 0, .int .u8 0, .int .u8 0, .int .u8 0, .int .u8 0, .int .u8 0, .int .u8 0, .int .u8 0, .int .u8 0, .int .u8 0, .int .u8 0, .int .u8 0, .int .u8 0, .int .i64 0] : Array Value) = gotCells (zer 30) 0 := by rfl
theorem got11 : (#[.int .u8 0, .int .u8 0, .int .u8 0, .int .u8 0, .int .u8 0, .int .u8 0, .int .u8 0, .int .u8 0, .int .u8 0, .int .u8 0, .int .u8 0, .int .u8 0, .int .u8 0, .int .u8 0, .int .u8 0, .int .u8 0, .int .u8 0, .int .u8 0, .int .u8 0, .int .u8 0, .int .u8 0, .int .u8 0, .int .u8 0, .int .u8 0, .int .u8 0, .int .u8 0, .int .u8 0, .int .u8 0, .int .u8 0, .int .u8 0, .int .i64 11] : Array Value) = gotCells (zer 30) 11 := by rfl
theorem gotm (m : BitVec 8) : (#[.int .u8 (bd m), .int .u8 0, .int .u8 0, .int .u8 0, .int .u8 0, .int .u8 0, .int .u8 0, .int .u8 0, .int .u8 0, .int .u8 0, .int .u8 0, .int .u8 0, .int .u8 0, .int .u8 0, .int .u8 0, .int .u8 0, .int .u8 0, .int .u8 0, .int .u8 0, .int .u8 0, .int .u8 0, .int .u8 0, .int .u8 0, .int .u8 0, .int .u8 0, .int .u8 0, .int .u8 0, .int .u8 0, .int .u8 0, .int .u8 0, .int .i64 0] : Array Value) = gotCells (m :: zer 29) 0 := by rfl
theorem spl_got (m : BitVec 8) (q : List (BitVec 8)) (hq : q.length = 29) : (spl (gotCells (m :: zer 29) 0).toList 1 (bytesV q)).toArray = gotCells (m :: q) 0 := by
  unfold spl gotCells
  rw [len_bytesV, hq]
  simp [bytesV, zer]
theorem got_e {w : World} {g : Nat} {t : TypeId} {q : List (BitVec 8)} {e : Int} (h : Row w g t (gotCells q e)) (hq : q.length = 30) : w.cell? ⟨g, 30, none⟩ = some (.int .i64 e) :=
  h.get (by
    unfold gotCells
    rw [List.getElem?_toArray, List.getElem?_append_right (by rw [len_bytesV, hq]; exact Nat.le_refl _), len_bytesV, hq]; rfl)
theorem decR_no {b : List (BitVec 8)} (h : decOk b = false) : decR b = zer 30 := by unfold decR; rw [h]; rfl
theorem decE_no {b : List (BitVec 8)} (h : decOk b = false) : decE b = 11 := by unfold decE; rw [h]; rfl
theorem decR_yes {b : List (BitVec 8)} (hl : b.length = 32) (h : decOk b = true) : decR b = markOf b :: bodyOf b := by
  unfold decR; rw [h, if_pos rfl, ← take30 hl, pad30_full (length_bodyOf hl)]
theorem decE_yes {b : List (BitVec 8)} (h : decOk b = true) : decE b = 0 := by unfold decE; rw [h]; rfl
structure DecAt (w W : World) (g1 g2 B0 : Nat) (b : List (BitVec 8)) : Prop where
  r1 : Row W g1 27 (bs b)
  r2 : Row W g2 60 (gotCells (zer 30) 0)
  below : Below w.heap.size w W
  bse : B0 ≤ W.heap.size
  lo2 : w.heap.size ≤ g2
  l1 : g1 < B0
  l2 : g2 < B0
  b0 : w.heap.size ≤ B0
theorem decAt_stays {w W W' : World} {g1 g2 B0 : Nat} {b : List (BitVec 8)} (h : DecAt w W g1 g2 B0 b) (k : Same W W') : DecAt w W' g1 g2 B0 b :=
  ⟨h.r1.call k, h.r2.call k, h.below.trans (k.mono h.below.size), Nat.le_trans h.bse k.size, h.lo2, h.l1, h.l2, h.b0⟩
theorem DecAt.only {w W W' : World} {g1 g2 B0 g : Nat} {b : List (BitVec 8)} (h : DecAt w W g1 g2 B0 b) (hg : B0 ≤ g) (k : W.grownBy W' (some g)) : DecAt w W' g1 g2 B0 b :=
  ⟨h.r1.only k (by have := h.l1; omega), h.r2.only k (by have := h.l2; omega), h.below.trans (only_below k (Nat.le_trans h.b0 hg) h.below.size), Nat.le_trans h.bse k.size, h.lo2, h.l1, h.l2, h.b0⟩
theorem DecAt.set {w W : World} {g1 g2 B0 g : Nat} {b : List (BitVec 8)} (h : DecAt w W g1 g2 B0 b) (hg : B0 ≤ g) (cs : Array Value) : DecAt w (W.setRow g cs) g1 g2 B0 b := h.only hg (grown_setRow W g cs)
theorem DecAt.c0 {w W : World} {g1 g2 B0 : Nat} {b : List (BitVec 8)} (h : DecAt w W g1 g2 B0 b) (hb : b.length = 32) : W.cell? ⟨g1, 0, none⟩ = some (.int .u8 (bd (markOf b))) :=
  h.r1.get (by cases b with
    | nil => simp at hb
    | cons x b => simp [bs, markOf])
theorem DecAt.body {w W : World} {g1 g2 B0 : Nat} {b : List (BitVec 8)} (h : DecAt w W g1 g2 B0 b) (hb : b.length = 32) : Item W (.slice (some ⟨g1, 1, none⟩) 29 31) (bodyOf b) :=
  ⟨some ⟨g1, 1, none⟩, 31, by rw [length_bodyOf hb], by
    have h1 := row_piece h.r1 (off := 1) (n := 29) (c := 31) (by omega) (by decide)
    rw [length_bodyOf hb]
    exact h1, (fun h => by cases h), by rw [length_bodyOf hb]; decide⟩
set_option maxRecDepth 20000 in
set_option maxHeartbeats 1600000 in
theorem refdec_any (b : List (BitVec 8)) (w : World) (hb : b.length = 32) :
    Calls Try.prog 19 #[.agg (bs b)] w fun e w' => e = .returned (.agg (gotCells (decR b) (decE b))) ∧ Below w.heap.size w w' := by
  have HBL := Lib.hid hb
  obtain ⟨E, hE⟩ : ∃ E, encB (markOf b) (bodyOf b) = E := ⟨_, rfl⟩
  obtain ⟨ee, hee⟩ : ∃ ee, encE (markOf b) (bodyOf b) = ee := ⟨_, rfl⟩
  have HE := Lib.hid hE
  have HEE := Lib.hid hee
  have HEL : Hid (E.length = 32) := Lib.hid (by rw [← hE]; exact length_encB _ _)
  have hz := zeros_got
  have HD0 : Hid (DecAt w ((w.alloc (.cells (bs b) 27)).alloc (.cells (gotCells (zer 30) 0) 60)) w.heap.size (w.heap.size + 1) (w.heap.size + 1 + 1) b) := Lib.hid ⟨(Row.fresh _ _ _).alloc _, row2b _ _ _ _, ((Below.refl _ _).alloc (Nat.le_refl _) _).alloc (by simp) _, by simp, by omega, by omega, by omega, by omega⟩
  clear hE hee hb
  go_enter Try.func19, Try.ntmps19
  go_upto_region 1 with fail
  obtain ⟨g1, hg1⟩ : ∃ g1, w.heap.size = g1 := ⟨_, rfl⟩
  obtain ⟨g2, hg2⟩ : ∃ g2, w.heap.size + 1 = g2 := ⟨_, rfl⟩
  obtain ⟨B0, hB0⟩ : ∃ B0, w.heap.size + 1 + 1 = B0 := ⟨_, rfl⟩
  rw [hB0, hg2] at HD0
  rw [hg2]
  have HD1 : Hid (DecAt w ((w.alloc (.cells (bs b) 27)).alloc (.cells (gotCells (zer 30) 0) 60)) g1 g2 B0 b) := Lib.hid (by rw [← hg1]; exact HD0.out)
  rw [hg1]
  clear hg1 hg2 hB0 hz HD0
  generalize (w.alloc (.cells (bs b) 27)).alloc (.cells (gotCells (zer 30) 0) 60) = W1 at *
  have hF0 : Wl [fun W => DecAt w W g1 g2 B0 b, fun W => DecAt w W g1 g2 B0 b] 0 W1.drew := decAt_stays HD1.out (Below.refl _ _).drew
  clear HD1
  refine wp_region_phas [is (.pointer (some ⟨g1, 0, none⟩)), is (.int .u8 (bd (markOf b))), is (.slice (some ⟨g1, 1, none⟩) 29 31), is (.tuple #[.agg (bs E), .int .i64 ee]), is (.tuple #[.agg (bs E), .int .i64 ee]), is (.agg (bs E)), is (.int .i64 ee), (fun v W => ∃ g, v = Value.pointer (some ⟨g, 0, none⟩) ∧ Row W g 27 (bs (blk 0#8)) ∧ B0 ≤ g), (fun v W => ∃ g, v = Value.pointer (some ⟨g, 0, none⟩) ∧ Row W g 27 (bs E) ∧ B0 ≤ g), is (.int .i64 ee)] [true, true, true, true, true, true, true, false, false, true] [(fun W => DecAt w W g1 g2 B0 b), (fun W => DecAt w W g1 g2 B0 b)] [false, false, false, false, false, false, false, false, true, false] [some 0, some 0, some 0, some 0, some 0, some 0, none, some 0, some 0, some 1] [none, none, none, none, none, none, none, none, some 7, none] [some 7, some 8, some 9, some 10, some 6, some 11, some 12, some 3, none, some 4] 10 1 (fun _ => true) rfl rfl (by kernel_rfl) (by kernel_rfl) (by kernel_rfl) (by kernel_rfl) (by kernel_rfl) ?_ ?_ ?_ ?_ ?_ ?_
  · repeat first | exact wok_nil | refine wok_cons (by first | exact fun _ _ h k => decAt_stays h k) ?_
  · repeat first | exact vok_nil | refine vok_rig (by first | exact fun _ _ _ h => h) ?_ | refine vok_soft (by first | exact fun _ _ _ h _ => h | exact fun _ _ _ h k => ⟨h.choose, h.choose_spec.1, h.choose_spec.2.1.call k, h.choose_spec.2.2⟩) ?_
  · exact hF0
  · repeat first | exact all_end (by decide) | refine all_cons (by first | exact rfl | exact ⟨rfl, fun _ _ h => Or.inl h⟩ | exact ⟨rfl, fun _ _ h => Or.inr ⟨h, rfl⟩⟩) ?_
  · refine alla_old rfl (step_mild 0 rfl rfl rfl (fun a x W hout hin hP => ?_)) ?_
    · have e1 : a.tmps[1]? = some (.pointer (some ⟨g1, 0, none⟩)) := (hout 1 (by kernel_rfl)).trans rfl
      clear hin hout
      intro K Q hK
      go_simp
      exact hK _ _ ⟨Same.refl _, rfl⟩
    refine alla_old rfl (step_mild 0 rfl rfl rfl (fun a x W hout hin hP => ?_)) ?_
    · have e7 := hin.is 0 7 (by kernel_rfl) (by decide) (by kernel_rfl) (by kernel_rfl) _ rfl
      have hc := hP.c0 HBL.out
      clear hP
      clear hin hout
      intro K Q hK
      go_simp
      exact hK _ _ ⟨Same.refl _, rfl⟩
    refine alla_old rfl (step_mild 0 rfl rfl rfl (fun a x W hout hin hP => ?_)) ?_
    · have e1 : a.tmps[1]? = some (.pointer (some ⟨g1, 0, none⟩)) := (hout 1 (by kernel_rfl)).trans rfl
      clear hin hout
      intro K Q hK
      go_simp
      exact hK _ _ ⟨Same.refl _, rfl⟩
    refine alla_old rfl (step_mild 0 rfl rfl rfl (fun a x W hout hin hP => ?_)) ?_
    · have e8 := hin.is 1 8 (by kernel_rfl) (by decide) (by kernel_rfl) (by kernel_rfl) _ rfl
      have e9 := hin.is 2 9 (by kernel_rfl) (by decide) (by kernel_rfl) (by kernel_rfl) _ rfl
      have C := refenc_any (markOf b) (bodyOf b) _ W (hP.body HBL.out)
      rw [HE.out, HEE.out] at C
      clear hP
      clear hin hout
      intro K Q hK
      go_simp
      refine C.mono ?_
      rintro e W' ⟨rfl, hb⟩
      exact hK _ _ ⟨hb, rfl⟩
    refine alla_old rfl (step_mild 0 rfl rfl rfl (fun a x W hout hin hP => ?_)) ?_
    · have e10 := hin.is 3 10 (by kernel_rfl) (by decide) (by kernel_rfl) (by kernel_rfl) _ rfl
      exact does_move rfl e10 ⟨Same.refl _, rfl⟩
    refine alla_old rfl (step_mild 0 rfl rfl rfl (fun a x W hout hin hP => ?_)) ?_
    · have e6 := hin.is 4 6 (by kernel_rfl) (by decide) (by kernel_rfl) (by kernel_rfl) _ rfl
      clear hin hout
      intro K Q hK
      go_simp
      exact hK _ _ ⟨Same.refl _, rfl⟩
    refine alla_old rfl (step_pure rfl rfl (fun a x W hout hin => ?_)) ?_
    · have e6 := hin.is 4 6 (by kernel_rfl) (by decide) (by kernel_rfl) (by kernel_rfl) _ rfl
      clear hin hout
      intro K Q hK
      go_simp
      exact hK _ _ ⟨rfl, rfl⟩
    refine alla_old rfl (step_mild 0 rfl rfl rfl (fun a x W hout hin hP => ?_)) ?_
    · have hz := zeros_blk
      have hbse := hP.bse
      clear hP
      clear hin hout
      intro K Q hK
      go_simp
      exact hK _ _ ⟨Same.alloc _ _, _, rfl, Row.fresh _ _ _, hbse⟩
    refine alla_wild 0 rfl rfl rfl (fun a x W hout hin hP => ?_) ?_
    · obtain ⟨hw7, hx7⟩ := hin 7 (by kernel_rfl) (by decide)
      have hw7 := hw7 (.inr ⟨rfl, by kernel_rfl⟩)
      have hx7 := hx7 3 (by kernel_rfl)
      have e11 := hin.is 5 11 (by kernel_rfl) (by decide) (by kernel_rfl) (by kernel_rfl) _ rfl
      obtain ⟨g3, hg3, r3, hb3⟩ := hw7
      rw [hg3] at hx7
      clear hin hout
      intro K Q hK
      refine wp_store_row 27 (.tmp 3) (.tmp 11) rfl g3 (bs E) (eval_of_get hx7) (eval_of_get e11) 27 (bs (blk 0#8)) r3 (by rw [size_bs, HEL.out]; exact size_blk) (by rw [size_bs, size_bs, length_blk, HEL.out]) (one_bs _) ?_
      exact hK (x 7) _ ⟨hP.set hb3 _, ⟨g3, hg3, r3.setRow _, hb3⟩, al_one rfl rfl⟩
    refine alla_old rfl (step_mild 1 rfl rfl rfl (fun a x W hout hin hP => ?_)) ?_
    · have e12 := hin.is 6 12 (by kernel_rfl) (by decide) (by kernel_rfl) (by kernel_rfl) _ rfl
      exact does_assign rfl e12 ⟨Same.refl _, rfl⟩
    exact all_end (by decide)
  · intro x W hP hV hal
    obtain ⟨g3, h8, r3, hb3⟩ := hV 8 (by decide) (.inr (by kernel_rfl))
    have h7 : x 7 = .pointer (some ⟨g3, 0, none⟩) := (hal 8 (by decide) 7 rfl).symm.trans h8
    have h9 : x 9 = .int .i64 ee := hV 9 (by decide) (.inl (by kernel_rfl))
    have HD : Hid (DecAt w W g1 g2 B0 b) := Lib.hid hP
    have R3 := Lib.hid r3
    clear hV hP hal h8 r3
    simp only [putL, Act.put, List.setIfInBounds_toArray, List.set_cons_succ, List.set_cons_zero, h7, h9]
    refine wpAnyH_done (by kernel_rfl) ?_ _
    clear h7 h9
    have HZ := Lib.hid zeros_got
    by_cases hm0 : markOf b = 0#8
    · have hee : ee = 1 := by rw [← HEE.out]; exact encE_bad (by unfold encBad; rw [decide_eq_true hm0]; rfl)
      have HN : Hid (decOk b = false) := Lib.hid (by unfold decOk; rw [decide_eq_false (fun h => h hm0)]; rfl)
      subst hee
      have r2 := HD.out.r2
      have hz := HZ.out
      have h11 := got11
      clear hm0
      go_wp2_with (first | (refine wpList_store_row rfl 60 _ _ rfl g2 (gotCells (zer 30) 11) rfl rfl 60 _ r2 (by rw [size_gotCells (by rfl)]; exact size_got) rfl (one_gotCells _ _) ?_))
      exact bodyPost_ret (v := .agg (gotCells (zer 30) 11)) (results_cell_row Try.results19 _ _ g2 60 (gotCells (zer 30) 11) (0, 0) _ rfl (r2.setRow _) Try.underlying60 rfl (by rw [size_gotCells (by rfl)]; exact size_got)) rfl ⟨by rw [decR_no HN.out, decE_no HN.out], below_setRow HD.out.below HD.out.lo2 _⟩
    · have hgood : encBad (markOf b) (bodyOf b) = false := by unfold encBad; rw [decide_eq_false hm0, decide_eq_false (by rw [length_bodyOf HBL.out]; omega)]; rfl
      have hee : ee = 0 := by rw [← HEE.out]; exact encE_good hgood
      have hE : E = sealedB (markOf b) (bodyOf b) := by rw [← HE.out]; exact encB_good hgood
      subst hee
      have rr3 := row_range R3.out (Below.refl _ _) R3.out.lt
      have rr1 := row_range HD.out.r1 (Below.refl _ _) HD.out.r1.lt
      have q := eql_blk E b HEL.out HBL.out W
      by_cases hEb : E = b
      · have HY : Hid (decOk b = true) := Lib.hid (by unfold decOk; rw [decide_eq_true hm0, decide_eq_true (hE.symm.trans hEb)]; rfl)
        rw [decide_eq_true hEb] at q
        clear hm0 hgood hE hEb
        have c0 := HD.out.c0 HBL.out
        have hz := HZ.out
        have HM := Lib.hid (gotm (markOf b))
        have hzm := HM.out
        go_wp2_with (first | (refine wpList_guarded (by rfl) (fun K hK => ?_); refine wp_load_mid 27 _ rfl g3 0 rfl (bs E).toList _ rr3 Try.underlying27 rfl (by rw [len_bs, HEL.out]; exact size_blk) (hK _ _ ?_)) | (refine wpList_guarded (by rfl) (fun K hK => ?_); refine wp_load_mid 27 _ rfl g1 0 rfl (bs b).toList _ rr1 Try.underlying27 rfl (by rw [len_bs, HBL.out]; exact size_blk) (hK _ _ ?_)) | (refine wpList_store_row rfl 60 _ _ rfl W.heap.size (gotCells (markOf b :: zer 29) 0) rfl rfl 60 _ (Row.fresh _ _ _) (by rw [size_gotCells (by rfl)]; exact size_got) rfl (one_gotCells _ _) ?_; rw [World.setRow_alloc_new]))
        have HD5 : Hid (DecAt w (W.alloc (.cells (gotCells (markOf b :: zer 29) 0) 60)) g1 g2 B0 b) := Lib.hid (decAt_stays HD.out (Same.alloc _ _))
        have R5 := Lib.hid (Row.fresh W 60 (gotCells (markOf b :: zer 29) 0))
        have HB5 : Hid (B0 ≤ W.heap.size) := Lib.hid HD.out.bse
        obtain ⟨g5, hg5⟩ : ∃ g5, W.heap.size = g5 := ⟨_, rfl⟩
        rw [hg5] at R5 HB5
        rw [hg5]
        clear q rr3 rr1 c0 hzm hz HM HD R3 hg5
        generalize W.alloc (.cells (gotCells (markOf b :: zer 29) 0) 60) = W5 at *
        have hF0 : Wl [fun W => DecAt w W g1 g2 B0 b ∧ Row W g5 60 (gotCells (markOf b :: zer 29) 0), fun W => DecAt w W g1 g2 B0 b ∧ Row W g5 60 (gotCells (markOf b :: bodyOf b) 0)] 0 W5.drew := ⟨decAt_stays HD5.out (Below.refl _ _).drew, R5.out.call (Below.refl _ _).drew⟩
        refine wp_region_phs [is (.pointer (some ⟨g5, 1, none⟩)), is (.slice (some ⟨g5, 1, none⟩) 29 29), is (.slice (some ⟨g1, 1, none⟩) 29 31), anyV] [true, true, true, true] [(fun W => DecAt w W g1 g2 B0 b ∧ Row W g5 60 (gotCells (markOf b :: zer 29) 0)), (fun W => DecAt w W g1 g2 B0 b ∧ Row W g5 60 (gotCells (markOf b :: bodyOf b) 0))] [false, false, false, true] [some 0, some 0, some 0, some 0] [some 24, some 25, some 26, some 27] 4 1 (fun _ => true) rfl rfl (by kernel_rfl) (by kernel_rfl) (by kernel_rfl) (by kernel_rfl) ?_ ?_ ?_ ?_ ?_ ?_
        · repeat first | exact wok_nil | refine wok_cons (by first | exact fun _ _ h k => ⟨decAt_stays h.1 k, h.2.call k⟩) ?_
        · repeat first | exact vok_nil | refine vok_rig (by first | exact fun _ _ _ h => h) ?_ | refine vok_soft (by first | exact fun _ _ _ h _ => h) ?_
        · exact hF0
        · repeat first | exact all_end (by decide) | refine all_cons (by first | exact rfl | exact ⟨rfl, fun _ _ h => Or.inl h⟩ | exact ⟨rfl, fun _ _ h => Or.inr ⟨h, rfl⟩⟩) ?_
        · refine allp_mild 0 rfl rfl rfl (fun a x W hout hin hP => ?_) ?_
          · have e5 : a.tmps[5]? = some (.pointer (some ⟨g5, 0, none⟩)) := (hout 5 (by kernel_rfl)).trans rfl
            clear hin hout
            intro K Q hK
            go_simp
            exact hK _ _ ⟨Same.refl _, rfl⟩
          refine allp_mild 0 rfl rfl rfl (fun a x W hout hin hP => ?_) ?_
          · have e24 := hin.is 0 24 (by kernel_rfl) (by decide) (by kernel_rfl) (by kernel_rfl) _ rfl
            clear hin hout
            intro K Q hK
            go_simp
            exact hK _ _ ⟨Same.refl _, rfl⟩
          refine allp_mild 0 rfl rfl rfl (fun a x W hout hin hP => ?_) ?_
          · have e1 : a.tmps[1]? = some (.pointer (some ⟨g1, 0, none⟩)) := (hout 1 (by kernel_rfl)).trans rfl
            clear hin hout
            intro K Q hK
            go_simp
            exact hK _ _ ⟨Same.refl _, rfl⟩
          refine allp_wild 0 rfl rfl rfl (fun a x W hout hin hP => ?_) ?_
          · have e25 := hin.is 1 25 (by kernel_rfl) (by decide) (by kernel_rfl) (by kernel_rfl) _ rfl
            have e26 := hin.is 2 26 (by kernel_rfl) (by decide) (by kernel_rfl) (by kernel_rfl) _ rfl
            clear hin hout
            intro K Q hK
            refine wp_copy_any (.tmp 25) (.tmp 26) rfl g5 1 29 29 (eval_of_get e25) _ (eval_of_get e26) (bodyOf b) (hP.1.body HBL.out).slice 60 _ hP.2 (by rw [size_gotCells (by rfl), length_bodyOf HBL.out]; omega) (by rw [length_bodyOf HBL.out]; exact Nat.le_refl _) ?_
            intro W' r5 hg
            rw [spl_got _ _ (length_bodyOf HBL.out)] at r5
            exact hK _ _ ⟨⟨hP.1.only HB5.out hg, r5⟩, trivial⟩
          exact all_end (by decide)
        · intro x W hP hV
          clear hV
          obtain ⟨hD, r5⟩ : DecAt w W g1 g2 B0 b ∧ Row W g5 60 (gotCells (markOf b :: bodyOf b) 0) := hP
          have HD := Lib.hid hD
          simp only [putL, Act.put, List.setIfInBounds_toArray, List.set_cons_succ, List.set_cons_zero]
          refine wpAnyH_done (by kernel_rfl) ?_ _
          have r2 := HD.out.r2
          have HG : Hid ((gotCells (markOf b :: bodyOf b) 0).size = 31) := Lib.hid (size_gotCells (by rw [List.length_cons, length_bodyOf HBL.out]))
          clear hD
          go_wp2_with (first | (refine wpList_load_row rfl 60 _ rfl g5 rfl 60 (gotCells (markOf b :: bodyOf b) 0) (0, 0) _ r5 Try.underlying60 rfl (by rw [HG.out]; exact size_got) ?_) | (refine wpList_store_row rfl 60 _ _ rfl g2 (gotCells (markOf b :: bodyOf b) 0) rfl rfl 60 _ r2 (by rw [HG.out]; exact size_got) (by rw [HG.out]; exact size_gotCells (by rfl)) (one_gotCells _ _) ?_))
          exact bodyPost_ret (v := .agg (gotCells (markOf b :: bodyOf b) 0)) (results_cell_row Try.results19 _ _ g2 60 (gotCells (markOf b :: bodyOf b) 0) (0, 0) _ rfl (r2.setRow _) Try.underlying60 rfl (by rw [HG.out]; exact size_got)) rfl ⟨by rw [decR_yes HBL.out HY.out, decE_yes HY.out], below_setRow HD.out.below HD.out.lo2 _⟩
      · have HN : Hid (decOk b = false) := Lib.hid (by unfold decOk; rw [decide_eq_true hm0, decide_eq_false (fun h => hEb (hE.trans h))]; rfl)
        rw [decide_eq_false hEb] at q
        clear hm0 hgood hE hEb
        have r2 := HD.out.r2
        have hz := HZ.out
        have h11 := got11
        go_wp2_with (first | (refine wpList_guarded (by rfl) (fun K hK => ?_); refine wp_load_mid 27 _ rfl g3 0 rfl (bs E).toList _ rr3 Try.underlying27 rfl (by rw [len_bs, HEL.out]; exact size_blk) (hK _ _ ?_)) | (refine wpList_guarded (by rfl) (fun K hK => ?_); refine wp_load_mid 27 _ rfl g1 0 rfl (bs b).toList _ rr1 Try.underlying27 rfl (by rw [len_bs, HBL.out]; exact size_blk) (hK _ _ ?_)) | (refine wpList_store_row rfl 60 _ _ rfl g2 (gotCells (zer 30) 11) rfl rfl 60 _ r2 (by rw [size_gotCells (by rfl)]; exact size_got) rfl (one_gotCells _ _) ?_))
        exact bodyPost_ret (v := .agg (gotCells (zer 30) 11)) (results_cell_row Try.results19 _ _ g2 60 (gotCells (zer 30) 11) (0, 0) _ rfl (r2.setRow _) Try.underlying60 rfl (by rw [size_gotCells (by rfl)]; exact size_got)) rfl ⟨by rw [decR_no HN.out, decE_no HN.out], below_setRow HD.out.below HD.out.lo2 _⟩
end Go.Proofs.Ytmghacgifokbhaa
