/- The functions of desk: the program's and the document's. -/
import Derived.Test.YtpnndkobaikhfaaDeskSpec
import Derived.Test.YtpnndkobaikhfaaSt
import Derived.Deep.Cut
import Derived.Deep.CutBlock
set_option maxRecDepth 4000
namespace Go.Proofs.Ytpnndkobaikhfaa
open Go Go.RowKit
theorem size_dsk : (Try.prog.info? 24).map (·.size) = some 3 := by kernel_rfl
theorem size_dlab : (Try.prog.info? 27).map (·.size) = some 5 := by kernel_rfl
theorem size_heir : (Try.prog.info? 47).map (·.size) = some 8 := by kernel_rfl
theorem size_rdsk : (Try.prog.info? 30).map (·.size) = some 3 := by kernel_rfl
theorem one_dsk (D : Dsk) : (Value.agg (dskC D)).cells.all (·.oneCell') = true := by simp [Value.cells, dskC, Value.oneCell']
theorem one_dlab (L : DLab) : (Value.agg (dlabC L)).cells.all (·.oneCell') = true := by simp [Value.cells, dlabC, Value.oneCell']
theorem one_heir (D : Dsk) (L : DLab) : (Value.agg (heirC D L)).cells.all (·.oneCell') = true := by simp [Value.cells, heirC, Value.oneCell']
attribute [local go_sem] or_hd wd_succ hd_zero

theorem other_any (D : Dsk) (w : World) : Calls Try.prog 7 #[.agg (dskC D)] w fun x w' => x = .returned (.int .i64 (otherD D)) ∧ Below w.heap.size w w' := by
  obtain ⟨O, hO⟩ : ∃ O, otherD D = O := ⟨_, rfl⟩
  rw [hO]
  have HO := Lib.hid hO
  clear hO
  have HS := St.nil w noF
  go_enter Try.func7, Try.ntmps7
  go_upto_region 1 with (first | ((with_reducible refine wpList_plain ?_ ?_); exact rfl; intro KK hKK; refine wp_st_box HS 24 (.tmp 0) rfl _ rfl (dskC D) (rfl) (fun g1 W1 HSx => hKK _ _ ?_); clear hKK KK HS; have HS : St w noF [⟨g1, 24, dskC D⟩] W1 := HSx; clear HSx))
  have c0 : W1.cell? ⟨g1, 0, none⟩ = some (.int .i64 D.p) := (HS.row 0 rfl).get rfl
  have c1 : W1.cell? ⟨g1, 1, none⟩ = some (.int .u32 (wd D.e)) := (HS.row 0 rfl).get rfl
  have c2 : W1.cell? ⟨g1, 2, none⟩ = some (.bool D.s) := (HS.row 0 rfl).get rfl
  by_cases h : D.p = 0
  · have hb : (D.p == 0) = true := beq_iff_eq.2 h
    have HH := Lib.hid h
    clear h
    go_wp2_with fail
    go_ret
    exact ⟨by rw [← HO.out]; unfold otherD; rw [if_pos HH.out]; rfl, HS.below⟩
  · have hb : (D.p == 0) = false := beq_eq_false_iff_ne.2 h
    have HH := Lib.hid h
    clear h
    go_wp2_with fail
    go_ret
    exact ⟨by rw [← HO.out]; unfold otherD; rw [if_neg HH.out]; rfl, HS.below⟩

theorem rother_any (D : Dsk) (w : World) : Calls Try.prog 8 #[.agg (dskC D)] w fun x w' => x = .returned (.int .i64 (otherD D)) ∧ Below w.heap.size w w' := by
  obtain ⟨O, hO⟩ : ∃ O, otherD D = O := ⟨_, rfl⟩
  rw [hO]
  have HO := Lib.hid hO
  clear hO
  have HS := St.nil w noF
  go_enter Try.func8, Try.ntmps8
  go_upto_region 1 with (first | ((with_reducible refine wpList_plain ?_ ?_); exact rfl; intro KK hKK; refine wp_st_box HS 30 (.tmp 0) rfl _ rfl (dskC D) (rfl) (fun g1 W1 HSx => hKK _ _ ?_); clear hKK KK HS; have HS : St w noF [⟨g1, 30, dskC D⟩] W1 := HSx; clear HSx))
  have c0 : W1.cell? ⟨g1, 0, none⟩ = some (.int .i64 D.p) := (HS.row 0 rfl).get rfl
  have c1 : W1.cell? ⟨g1, 1, none⟩ = some (.int .u32 (wd D.e)) := (HS.row 0 rfl).get rfl
  have c2 : W1.cell? ⟨g1, 2, none⟩ = some (.bool D.s) := (HS.row 0 rfl).get rfl
  by_cases h : D.p = 0
  · have hb : (D.p == 0) = true := beq_iff_eq.2 h
    have HH := Lib.hid h
    clear h
    go_wp2_with fail
    go_ret
    exact ⟨by rw [← HO.out]; unfold otherD; rw [if_pos HH.out]; rfl, HS.below⟩
  · have hb : (D.p == 0) = false := beq_eq_false_iff_ne.2 h
    have HH := Lib.hid h
    clear h
    go_wp2_with fail
    go_ret
    exact ⟨by rw [← HO.out]; unfold otherD; rw [if_neg HH.out]; rfl, HS.below⟩

set_option maxHeartbeats 1600000 in
theorem may_any (D : Dsk) (n : Int) (up force : Bool) (w : World) : Calls Try.prog 9 #[.agg (dskC D), .int .i64 n, .bool up, .bool force] w fun x w' => x = .returned (.int .i64 (mayD D n up force)) ∧ Below w.heap.size w w' := by
  obtain ⟨M, hM⟩ : ∃ M, mayD D n up force = M := ⟨_, rfl⟩
  rw [hM]
  have HM := Lib.hid hM
  clear hM
  have HS := St.nil w noF
  go_enter Try.func9, Try.ntmps9
  go_upto_region 1 with (first | ((with_reducible refine wpList_plain ?_ ?_); exact rfl; intro KK hKK; refine wp_st_box HS 24 (.tmp 0) rfl _ rfl (dskC D) (rfl) (fun g1 W1 HSx => hKK _ _ ?_); clear hKK KK HS; have HS : St w noF [⟨g1, 24, dskC D⟩] W1 := HSx; clear HSx))
  have c0 : W1.cell? ⟨g1, 0, none⟩ = some (.int .i64 D.p) := (HS.row 0 rfl).get rfl
  have c1 : W1.cell? ⟨g1, 1, none⟩ = some (.int .u32 (wd D.e)) := (HS.row 0 rfl).get rfl
  have c2 : W1.cell? ⟨g1, 2, none⟩ = some (.bool D.s) := (HS.row 0 rfl).get rfl
  have HB := Lib.hid HS.below
  clear HS
  obtain ⟨p, ep, sy⟩ := D
  simp only at c0 c1 c2
  by_cases h0 : n = 0
  · subst h0
    by_cases hp : (0 : Int) = p
    · have hb : ((0 : Int) == p) = true := beq_iff_eq.2 hp
      have HP := Lib.hid hp
      clear hp
      go_wp2_with fail
      go_ret
      exact ⟨by rw [← HM.out]; simp [mayD, HP.out], HB.out⟩
    · have hb : ((0 : Int) == p) = false := beq_eq_false_iff_ne.2 hp
      have HP := Lib.hid hp
      clear hp
      cases up
      case false =>
        go_wp2_with fail
        go_ret
        exact ⟨by rw [← HM.out]; simp [mayD, HP.out], HB.out⟩
      cases sy
      case true =>
        go_wp2_with fail
        go_ret
        exact ⟨by rw [← HM.out]; simp [mayD, HP.out], HB.out⟩
      cases force
      case false =>
        go_wp2_with fail
        go_ret
        exact ⟨by rw [← HM.out]; simp [mayD, HP.out], HB.out⟩
      go_wp2_with fail
      go_ret
      exact ⟨by rw [← HM.out]; simp [mayD, HP.out], HB.out⟩
  by_cases h1 : n = 1
  · subst h1
    by_cases hp : (1 : Int) = p
    · have hb : ((1 : Int) == p) = true := beq_iff_eq.2 hp
      have HP := Lib.hid hp
      clear hp
      go_wp2_with fail
      go_ret
      exact ⟨by rw [← HM.out]; simp [mayD, HP.out], HB.out⟩
    · have hb : ((1 : Int) == p) = false := beq_eq_false_iff_ne.2 hp
      have HP := Lib.hid hp
      clear hp
      cases up
      case false =>
        go_wp2_with fail
        go_ret
        exact ⟨by rw [← HM.out]; simp [mayD, HP.out], HB.out⟩
      cases sy
      case true =>
        go_wp2_with fail
        go_ret
        exact ⟨by rw [← HM.out]; simp [mayD, HP.out], HB.out⟩
      cases force
      case false =>
        go_wp2_with fail
        go_ret
        exact ⟨by rw [← HM.out]; simp [mayD, HP.out], HB.out⟩
      go_wp2_with fail
      go_ret
      exact ⟨by rw [← HM.out]; simp [mayD, HP.out], HB.out⟩
  have b0 : (n != 0) = true := bne_iff_ne.2 h0
  have b1 : (n != 1) = true := bne_iff_ne.2 h1
  have H0 := Lib.hid h0
  have H1 := Lib.hid h1
  clear h0 h1
  go_wp2_with fail
  go_ret
  exact ⟨by rw [← HM.out]; simp [mayD, H0.out, H1.out], HB.out⟩

set_option maxHeartbeats 1600000 in
theorem rmay_any (D : Dsk) (n : Int) (up force : Bool) (w : World) : Calls Try.prog 10 #[.agg (dskC D), .int .i64 n, .bool up, .bool force] w fun x w' => x = .returned (.int .i64 (mayD D n up force)) ∧ Below w.heap.size w w' := by
  obtain ⟨M, hM⟩ : ∃ M, mayD D n up force = M := ⟨_, rfl⟩
  rw [hM]
  have HM := Lib.hid hM
  clear hM
  have HS := St.nil w noF
  go_enter Try.func10, Try.ntmps10
  go_upto_region 1 with (first | ((with_reducible refine wpList_plain ?_ ?_); exact rfl; intro KK hKK; refine wp_st_box HS 30 (.tmp 0) rfl _ rfl (dskC D) (rfl) (fun g1 W1 HSx => hKK _ _ ?_); clear hKK KK HS; have HS : St w noF [⟨g1, 30, dskC D⟩] W1 := HSx; clear HSx))
  have c0 : W1.cell? ⟨g1, 0, none⟩ = some (.int .i64 D.p) := (HS.row 0 rfl).get rfl
  have c1 : W1.cell? ⟨g1, 1, none⟩ = some (.int .u32 (wd D.e)) := (HS.row 0 rfl).get rfl
  have c2 : W1.cell? ⟨g1, 2, none⟩ = some (.bool D.s) := (HS.row 0 rfl).get rfl
  have HB := Lib.hid HS.below
  clear HS
  obtain ⟨p, ep, sy⟩ := D
  simp only at c0 c1 c2
  by_cases h0 : n = 0
  · subst h0
    by_cases hp : (0 : Int) = p
    · have hb : ((0 : Int) == p) = true := beq_iff_eq.2 hp
      have HP := Lib.hid hp
      clear hp
      go_wp2_with fail
      go_ret
      exact ⟨by rw [← HM.out]; simp [mayD, HP.out], HB.out⟩
    · have hb : ((0 : Int) == p) = false := beq_eq_false_iff_ne.2 hp
      have HP := Lib.hid hp
      clear hp
      cases up
      case false =>
        go_wp2_with fail
        go_ret
        exact ⟨by rw [← HM.out]; simp [mayD, HP.out], HB.out⟩
      cases sy
      case true =>
        go_wp2_with fail
        go_ret
        exact ⟨by rw [← HM.out]; simp [mayD, HP.out], HB.out⟩
      cases force
      case false =>
        go_wp2_with fail
        go_ret
        exact ⟨by rw [← HM.out]; simp [mayD, HP.out], HB.out⟩
      go_wp2_with fail
      go_ret
      exact ⟨by rw [← HM.out]; simp [mayD, HP.out], HB.out⟩
  by_cases h1 : n = 1
  · subst h1
    by_cases hp : (1 : Int) = p
    · have hb : ((1 : Int) == p) = true := beq_iff_eq.2 hp
      have HP := Lib.hid hp
      clear hp
      go_wp2_with fail
      go_ret
      exact ⟨by rw [← HM.out]; simp [mayD, HP.out], HB.out⟩
    · have hb : ((1 : Int) == p) = false := beq_eq_false_iff_ne.2 hp
      have HP := Lib.hid hp
      clear hp
      cases up
      case false =>
        go_wp2_with fail
        go_ret
        exact ⟨by rw [← HM.out]; simp [mayD, HP.out], HB.out⟩
      cases sy
      case true =>
        go_wp2_with fail
        go_ret
        exact ⟨by rw [← HM.out]; simp [mayD, HP.out], HB.out⟩
      cases force
      case false =>
        go_wp2_with fail
        go_ret
        exact ⟨by rw [← HM.out]; simp [mayD, HP.out], HB.out⟩
      go_wp2_with fail
      go_ret
      exact ⟨by rw [← HM.out]; simp [mayD, HP.out], HB.out⟩
  have b0 : (n != 0) = true := bne_iff_ne.2 h0
  have b1 : (n != 1) = true := bne_iff_ne.2 h1
  have H0 := Lib.hid h0
  have H1 := Lib.hid h1
  clear h0 h1
  go_wp2_with fail
  go_ret
  exact ⟨by rw [← HM.out]; simp [mayD, H0.out, H1.out], HB.out⟩

theorem nextep_any (D : Dsk) (w : World) : Calls Try.prog 17 #[.agg (dskC D)] w fun x w' => x = .returned (.int .u32 (wd (D.e + 1#32))) ∧ Below w.heap.size w w' := by
  have HS := St.nil w noF
  go_enter Try.func17, Try.ntmps17
  go_upto_region 1 with (first | ((with_reducible refine wpList_plain ?_ ?_); exact rfl; intro KK hKK; refine wp_st_box HS 24 (.tmp 0) rfl _ rfl (dskC D) (rfl) (fun g1 W1 HSx => hKK _ _ ?_); clear hKK KK HS; have HS : St w noF [⟨g1, 24, dskC D⟩] W1 := HSx; clear HSx))
  have c0 : W1.cell? ⟨g1, 0, none⟩ = some (.int .i64 D.p) := (HS.row 0 rfl).get rfl
  have c1 : W1.cell? ⟨g1, 1, none⟩ = some (.int .u32 (wd D.e)) := (HS.row 0 rfl).get rfl
  have c2 : W1.cell? ⟨g1, 2, none⟩ = some (.bool D.s) := (HS.row 0 rfl).get rfl
  go_wp2_with fail
  go_ret
  exact ⟨rfl, HS.below⟩

theorem turn_dsk (D : Dsk) (n : Int) (k : BitVec 16) (w : World) : Calls Try.prog 13 #[.agg (dskC D), .int .i64 n, .int .u16 (hd k)] w fun x w' => x = .returned (.agg (dskC (turnD D n k))) ∧ Below w.heap.size w w' := by
  have C := Lib.hid (fun w => nextep_any D w)
  have HS := St.nil w noF
  go_enter Try.func13, Try.ntmps13
  go_upto_region 1 with (first | ((with_reducible refine wpList_plain ?_ ?_); exact rfl; intro KK hKK; refine wp_st_box HS 24 (.tmp 0) rfl _ rfl (dskC D) (rfl) (fun g1 W1 HSx => hKK _ _ ?_); clear hKK KK HS; have HS : St w noF [⟨g1, 24, dskC D⟩] W1 := HSx; clear HSx) | ((with_reducible refine wpList_plain ?_ ?_); exact rfl; intro KK hKK; refine wp_st_alloc HS 24 (#[.int .i64 0, .int .u32 0, .bool false]) rfl (.agg (#[.int .i64 0, .int .u32 0, .bool false])) (by kernel_rfl) (rfl) (fun g6 W2 HSx => hKK _ _ ?_); clear hKK KK HS; have HS : St w noF [⟨g1, 24, dskC D⟩, ⟨g6, 24, #[.int .i64 0, .int .u32 0, .bool false]⟩] W2 := HSx; clear HSx))
  go_wp2_with (first | ((with_reducible refine wpList_plain ?_ ?_); exact rfl; intro KK hKK; refine wp_st_load HS 0 0 24 (.tmp 3) rfl rfl rfl (dskC D) (slab_whole _) _ Try.underlying24 rfl (by exact size_dsk) (hKK _ _ ?_); clear hKK KK))
  refine (C.out _).mono ?_
  rintro x w3 ⟨rfl, hb⟩
  have HSx := HS.same hb
  clear HS hb C
  have HS := HSx
  clear HSx
  go_wp2_with (first | ((with_reducible refine wpList_plain ?_ ?_); exact rfl; intro KK hKK; refine wp_st_store HS 1 0 24 (.tmp 6) (.tmp 12) rfl rfl rfl (.agg (dskC (turnD D n k))) rfl (by exact size_dsk) (Nat.le_refl 3) (by exact one_dsk (turnD D n k)) (dskC (turnD D n k)) (by exact spl_agg _ _ _ rfl rfl) (fun W6 HSx => hKK _ _ ?_); clear hKK KK HS; have HS : St w noF [⟨g1, 24, dskC D⟩, ⟨g6, 24, dskC (turnD D n k)⟩] W6 := HSx; clear HSx))
  refine bodyPost_ret (results_cell_row Try.results13 _ _ g6 24 (dskC (turnD D n k)) (0, 0) _ rfl (HS.row 1 rfl) Try.underlying24 rfl (by exact size_dsk)) rfl ?_
  exact ⟨rfl, HS.below⟩

theorem rturn_dsk (D : Dsk) (n : Int) (k : BitVec 16) (w : World) : Calls Try.prog 14 #[.agg (dskC D), .int .i64 n, .int .u16 (hd k)] w fun x w' => x = .returned (.agg (dskC (turnD D n k))) ∧ Below w.heap.size w w' := by
  have HS := St.nil w noF
  go_enter Try.func14, Try.ntmps14
  go_upto_region 1 with (first | ((with_reducible refine wpList_plain ?_ ?_); exact rfl; intro KK hKK; refine wp_st_box HS 30 (.tmp 0) rfl _ rfl (dskC D) (rfl) (fun g1 W1 HSx => hKK _ _ ?_); clear hKK KK HS; have HS : St w noF [⟨g1, 30, dskC D⟩] W1 := HSx; clear HSx) | ((with_reducible refine wpList_plain ?_ ?_); exact rfl; intro KK hKK; refine wp_st_alloc HS 30 (#[.int .i64 0, .int .u32 0, .bool false]) rfl (.agg (#[.int .i64 0, .int .u32 0, .bool false])) (by kernel_rfl) (rfl) (fun g6 W2 HSx => hKK _ _ ?_); clear hKK KK HS; have HS : St w noF [⟨g1, 30, dskC D⟩, ⟨g6, 30, #[.int .i64 0, .int .u32 0, .bool false]⟩] W2 := HSx; clear HSx))
  have c0 : W2.cell? ⟨g1, 0, none⟩ = some (.int .i64 D.p) := (HS.row 0 rfl).get rfl
  have c1 : W2.cell? ⟨g1, 1, none⟩ = some (.int .u32 (wd D.e)) := (HS.row 0 rfl).get rfl
  have c2 : W2.cell? ⟨g1, 2, none⟩ = some (.bool D.s) := (HS.row 0 rfl).get rfl
  go_wp2_with (first | ((with_reducible refine wpList_plain ?_ ?_); exact rfl; intro KK hKK; refine wp_st_store HS 1 0 30 (.tmp 6) (.tmp 13) rfl rfl rfl (.agg (dskC (turnD D n k))) rfl (by exact size_rdsk) (Nat.le_refl 3) (by exact one_dsk (turnD D n k)) (dskC (turnD D n k)) (by exact spl_agg _ _ _ rfl rfl) (fun W3 HSx => hKK _ _ ?_); clear hKK KK HS; have HS : St w noF [⟨g1, 30, dskC D⟩, ⟨g6, 30, dskC (turnD D n k)⟩] W3 := HSx; clear HSx))
  refine bodyPost_ret (results_cell_row Try.results14 _ _ g6 30 (dskC (turnD D n k)) (0, 0) _ rfl (HS.row 1 rfl) Try.underlying30 rfl (by exact size_rdsk)) rfl ?_
  exact ⟨rfl, HS.below⟩

theorem new_dsk (w : World) : Calls Try.prog 16 #[] w fun x w' => x = .returned (.agg (dskC newD)) ∧ Below w.heap.size w w' := by
  have HS := St.nil w noF
  go_enter Try.func16, Try.ntmps16
  go_upto_region 1 with (first | ((with_reducible refine wpList_plain ?_ ?_); exact rfl; intro KK hKK; refine wp_st_alloc HS 24 (#[.int .i64 0, .int .u32 0, .bool false]) rfl (.agg (#[.int .i64 0, .int .u32 0, .bool false])) (by kernel_rfl) (rfl) (fun g0 W1 HSx => hKK _ _ ?_); clear hKK KK HS; have HS : St w noF [⟨g0, 24, #[.int .i64 0, .int .u32 0, .bool false]⟩] W1 := HSx; clear HSx))
  go_wp2_with (first | ((with_reducible refine wpList_plain ?_ ?_); exact rfl; intro KK hKK; refine wp_st_store HS 0 0 24 (.tmp 0) (.tmp 1) rfl rfl rfl (.agg (dskC newD)) rfl (by exact size_dsk) (Nat.le_refl 3) (by exact one_dsk newD) (dskC newD) (by exact spl_agg _ _ _ rfl rfl) (fun W2 HSx => hKK _ _ ?_); clear hKK KK HS; have HS : St w noF [⟨g0, 24, dskC newD⟩] W2 := HSx; clear HSx))
  refine bodyPost_ret (results_cell_row Try.results16 _ _ g0 24 (dskC newD) (0, 0) _ rfl (HS.row 0 rfl) Try.underlying24 rfl (by exact size_dsk)) rfl ?_
  exact ⟨rfl, HS.below⟩

theorem own_dsk (D : Dsk) (w : World) : Calls Try.prog 6 #[.agg (dskC D)] w fun x w' => x = .returned (.agg (dskC D)) ∧ Below w.heap.size w w' := by
  have HS := St.nil w noF
  go_enter Try.func6, Try.ntmps6
  go_upto_region 1 with (first | ((with_reducible refine wpList_plain ?_ ?_); exact rfl; intro KK hKK; refine wp_st_box HS 24 (.tmp 0) rfl _ rfl (dskC D) (rfl) (fun g1 W1 HSx => hKK _ _ ?_); clear hKK KK HS; have HS : St w noF [⟨g1, 24, dskC D⟩] W1 := HSx; clear HSx) | ((with_reducible refine wpList_plain ?_ ?_); exact rfl; intro KK hKK; refine wp_st_alloc HS 30 (#[.int .i64 0, .int .u32 0, .bool false]) rfl (.agg (#[.int .i64 0, .int .u32 0, .bool false])) (by kernel_rfl) (rfl) (fun g2 W2 HSx => hKK _ _ ?_); clear hKK KK HS; have HS : St w noF [⟨g1, 24, dskC D⟩, ⟨g2, 30, #[.int .i64 0, .int .u32 0, .bool false]⟩] W2 := HSx; clear HSx))
  have c0 : W2.cell? ⟨g1, 0, none⟩ = some (.int .i64 D.p) := (HS.row 0 rfl).get rfl
  have c1 : W2.cell? ⟨g1, 1, none⟩ = some (.int .u32 (wd D.e)) := (HS.row 0 rfl).get rfl
  have c2 : W2.cell? ⟨g1, 2, none⟩ = some (.bool D.s) := (HS.row 0 rfl).get rfl
  go_wp2_with (first | ((with_reducible refine wpList_plain ?_ ?_); exact rfl; intro KK hKK; refine wp_st_store HS 1 0 30 (.tmp 2) (.tmp 9) rfl rfl rfl (.agg (dskC D)) rfl (by exact size_rdsk) (Nat.le_refl 3) (by exact one_dsk D) (dskC D) (by exact spl_agg _ _ _ rfl rfl) (fun W3 HSx => hKK _ _ ?_); clear hKK KK HS; have HS : St w noF [⟨g1, 24, dskC D⟩, ⟨g2, 30, dskC D⟩] W3 := HSx; clear HSx))
  refine bodyPost_ret (results_cell_row Try.results6 _ _ g2 30 (dskC D) (0, 0) _ rfl (HS.row 1 rfl) Try.underlying30 rfl (by exact size_rdsk)) rfl ?_
  exact ⟨rfl, HS.below⟩

theorem lacking_any (D : Dsk) (L : DLab) (w : World) : Calls Try.prog 18 #[.agg (heirC D L)] w fun x w' => x = .returned (.int .u16 (hd (lackD D L))) ∧ Below w.heap.size w w' := by
  have HS := St.nil w noF
  go_enter Try.func18, Try.ntmps18
  go_upto_region 1 with (first | ((with_reducible refine wpList_plain ?_ ?_); exact rfl; intro KK hKK; refine wp_st_box HS 47 (.tmp 0) rfl _ rfl (heirC D L) (rfl) (fun g1 W1 HSx => hKK _ _ ?_); clear hKK KK HS; have HS : St w noF [⟨g1, 47, heirC D L⟩] W1 := HSx; clear HSx))
  have c2 : W1.cell? ⟨g1, 2, none⟩ = some (.bool D.s) := (HS.row 0 rfl).get rfl
  have c6 : W1.cell? ⟨g1, 6, none⟩ = some (.int .u16 (hd L.d)) := (HS.row 0 rfl).get rfl
  have c7 : W1.cell? ⟨g1, 7, none⟩ = some (.int .u16 (hd L.l)) := (HS.row 0 rfl).get rfl
  have HB := Lib.hid HS.below
  clear HS
  obtain ⟨p, ep, sy⟩ := D
  cases sy
  · go_wp2_with fail
    go_ret
    exact ⟨rfl, HB.out⟩
  · go_wp2_with fail
    go_ret
    exact ⟨rfl, HB.out⟩

set_option maxRecDepth 20000 in
set_option maxHeartbeats 800000 in
theorem fresh_any (D : Dsk) (L : DLab) (w : World) : Calls Try.prog 11 #[.agg (dskC D), .agg (dlabC L)] w fun x w' => x = .returned (.agg (dlabC (freshD D L))) ∧ Below w.heap.size w w' := by
  have HS := St.nil w noF
  go_enter Try.func11, Try.ntmps11
  go_upto_region 1 with (first | ((with_reducible refine wpList_plain ?_ ?_); exact rfl; intro KK hKK; refine wp_st_box HS 24 (.tmp 0) rfl _ rfl (dskC D) (rfl) (fun g2 W1 HSx => hKK _ _ ?_); clear hKK KK HS; have HS : St w noF [⟨g2, 24, dskC D⟩] W1 := HSx; clear HSx) | ((with_reducible refine wpList_plain ?_ ?_); exact rfl; intro KK hKK; refine wp_st_box HS 27 (.tmp 1) rfl _ rfl (dlabC L) (rfl) (fun g3 W2 HSx => hKK _ _ ?_); clear hKK KK HS; have HS : St w noF [⟨g2, 24, dskC D⟩, ⟨g3, 27, dlabC L⟩] W2 := HSx; clear HSx) | ((with_reducible refine wpList_plain ?_ ?_); exact rfl; intro KK hKK; refine wp_st_alloc HS 27 (#[.int .u32 0, .int .u32 0, .int .u32 0, .int .u16 0, .int .u16 0]) rfl (.agg (#[.int .u32 0, .int .u32 0, .int .u32 0, .int .u16 0, .int .u16 0])) (by kernel_rfl) (rfl) (fun g4 W3 HSx => hKK _ _ ?_); clear hKK KK HS; have HS : St w noF [⟨g2, 24, dskC D⟩, ⟨g3, 27, dlabC L⟩, ⟨g4, 27, #[.int .u32 0, .int .u32 0, .int .u32 0, .int .u16 0, .int .u16 0]⟩] W3 := HSx; clear HSx))
  go_upto_region 2 with (first | ((with_reducible refine wpList_plain ?_ ?_); exact rfl; intro KK hKK; refine wp_load_mid 24 (.tmp 2) rfl g2 0 rfl [.int .i64 D.p, .int .u32 (wd D.e), .bool D.s] _ ((HS.row 0 rfl).slab 0 _ rfl) Try.underlying24 rfl (by exact size_dsk) (hKK _ _ ?_); clear hKK KK) | ((with_reducible refine wpList_plain ?_ ?_); exact rfl; intro KK hKK; refine wp_load_mid 27 (.tmp 3) rfl g3 0 rfl [.int .u32 (wd L.e), .int .u32 (wd L.s), .int .u32 (wd L.n), .int .u16 (hd L.d), .int .u16 (hd L.l)] _ ((HS.row 1 rfl).slab 0 _ rfl) Try.underlying27 rfl (by exact size_dlab) (hKK _ _ ?_); clear hKK KK) | ((with_reducible refine wpList_plain ?_ ?_); exact rfl; intro KK hKK; refine wp_st_alloc HS 47 (#[.int .i64 0, .int .u32 0, .bool false, .int .u32 0, .int .u32 0, .int .u32 0, .int .u16 0, .int .u16 0]) rfl (.agg (#[.int .i64 0, .int .u32 0, .bool false, .int .u32 0, .int .u32 0, .int .u32 0, .int .u16 0, .int .u16 0])) (by kernel_rfl) (rfl) (fun g5 W4 HSx => hKK _ _ ?_); clear hKK KK HS; have HS : St w noF [⟨g2, 24, dskC D⟩, ⟨g3, 27, dlabC L⟩, ⟨g4, 27, #[.int .u32 0, .int .u32 0, .int .u32 0, .int .u16 0, .int .u16 0]⟩, ⟨g5, 47, #[.int .i64 0, .int .u32 0, .bool false, .int .u32 0, .int .u32 0, .int .u32 0, .int .u16 0, .int .u16 0]⟩] W4 := HSx; clear HSx) | ((with_reducible refine wpList_plain ?_ ?_); exact rfl; intro KK hKK; refine wp_st_store HS 3 0 47 (.tmp 5) (.tmp 8) rfl rfl rfl (.agg (heirC D L)) rfl (by exact size_heir) (Nat.le_refl 8) (by exact one_heir D L) (heirC D L) (by exact spl_agg _ _ _ rfl rfl) (fun W5 HSx => hKK _ _ ?_); clear hKK KK HS; have HS : St w noF [⟨g2, 24, dskC D⟩, ⟨g3, 27, dlabC L⟩, ⟨g4, 27, #[.int .u32 0, .int .u32 0, .int .u32 0, .int .u16 0, .int .u16 0]⟩, ⟨g5, 47, heirC D L⟩] W5 := HSx; clear HSx))
  have hF0 : Wl [(fun W => St w noF [⟨g2, 24, dskC D⟩, ⟨g3, 27, dlabC L⟩, ⟨g4, 27, #[.int .u32 0, .int .u32 0, .int .u32 0, .int .u16 0, .int .u16 0]⟩, ⟨g5, 47, heirC D L⟩] W)] 0 (World.drew _) := HS.drew
  clear HS
  refine wp_region_phs [is (.pointer (some ⟨g5, 0, none⟩)), is (.agg (dskC D)), is (.int .u32 (wd (D.e + 1#32))), is (.agg (heirC D L)), is (.int .u16 (hd (lackD D L))), is (.agg (dlabC (freshD D L))), anyV] [true, true, true, true, true, true, true] [(fun W => St w noF [⟨g2, 24, dskC D⟩, ⟨g3, 27, dlabC L⟩, ⟨g4, 27, #[.int .u32 0, .int .u32 0, .int .u32 0, .int .u16 0, .int .u16 0]⟩, ⟨g5, 47, heirC D L⟩] W), (fun W => St w noF [⟨g2, 24, dskC D⟩, ⟨g3, 27, dlabC L⟩, ⟨g4, 27, dlabC (freshD D L)⟩, ⟨g5, 47, heirC D L⟩] W)] [false, false, false, false, false, false, true] [some 0, some 0, some 0, some 0, some 0, some 0, some 0] [some 9, some 10, some 11, some 12, some 13, some 14, none] 7 1 (fun _ => true) rfl rfl (by kernel_rfl) (by kernel_rfl) (by kernel_rfl) (by kernel_rfl) ?_ ?_ ?_ ?_ ?_ ?_
  · repeat first | exact wok_nil | refine wok_cons (by first | exact fun _ _ h k => h.same k) ?_
  · repeat first | exact vok_nil | refine vok_rig (by first | exact fun _ _ _ h => h) ?_ | refine vok_soft (by first | exact fun _ _ _ h _ => h) ?_
  · exact hF0
  · repeat first | exact all_end (by decide) | refine all_cons (by first | exact rfl | exact ⟨rfl, fun _ _ h => Or.inl h⟩ | exact ⟨rfl, fun _ _ h => Or.inr ⟨h, rfl⟩⟩) ?_
  · refine allp_mild 0 rfl rfl rfl (fun a x W hout hin hP => ?_) ?_
    · have e5 : a.tmps[5]? = some (.pointer (some ⟨g5, 0, none⟩)) := (hout 5 (by kernel_rfl)).trans rfl
      clear hin hout
      intro K Q hK
      go_simp
      exact hK _ _ ⟨Same.refl _, rfl⟩
    refine allp_mild 0 rfl rfl rfl (fun a x W hout hin hP => ?_) ?_
    · have e9 := hin.is 0 9 (by kernel_rfl) (by decide) (by kernel_rfl) (by kernel_rfl) _ rfl
      have hr := hP.row 3 rfl
      clear hin hout hP
      intro K Q hK
      exact wp_load_mid 24 (.tmp 9) rfl g5 0 (eval_of_get e9) [.int .i64 D.p, .int .u32 (wd D.e), .bool D.s] _ (hr.slab 0 _ rfl) Try.underlying24 rfl (by exact size_dsk) (hK _ _ ⟨Same.refl _, rfl⟩)
    refine allp_mild 0 rfl rfl rfl (fun a x W hout hin hP => ?_) ?_
    · have e10 := hin.is 1 10 (by kernel_rfl) (by decide) (by kernel_rfl) (by kernel_rfl) _ rfl
      have C := nextep_any D W
      clear hP
      clear hin hout
      intro K Q hK
      go_simp
      refine C.mono ?_
      rintro e W' ⟨rfl, hb⟩
      exact hK _ _ ⟨hb, rfl⟩
    refine allp_mild 0 rfl rfl rfl (fun a x W hout hin hP => ?_) ?_
    · have e5 : a.tmps[5]? = some (.pointer (some ⟨g5, 0, none⟩)) := (hout 5 (by kernel_rfl)).trans rfl
      have hr := hP.row 3 rfl
      clear hin hout hP
      intro K Q hK
      exact wp_load_row 47 (.tmp 5) rfl g5 (eval_of_get e5) 47 (heirC D L) (0, 0) _ hr Try.underlying47 rfl (by exact size_heir) (hK _ _ ⟨Same.refl _, rfl⟩)
    refine allp_mild 0 rfl rfl rfl (fun a x W hout hin hP => ?_) ?_
    · have e12 := hin.is 3 12 (by kernel_rfl) (by decide) (by kernel_rfl) (by kernel_rfl) _ rfl
      have C := lacking_any D L W
      clear hP
      clear hin hout
      intro K Q hK
      go_simp
      refine C.mono ?_
      rintro e W' ⟨rfl, hb⟩
      exact hK _ _ ⟨hb, rfl⟩
    refine allp_mild 0 rfl rfl rfl (fun a x W hout hin hP => ?_) ?_
    · have e11 := hin.is 2 11 (by kernel_rfl) (by decide) (by kernel_rfl) (by kernel_rfl) _ rfl
      have e13 := hin.is 4 13 (by kernel_rfl) (by decide) (by kernel_rfl) (by kernel_rfl) _ rfl
      clear hP
      clear hin hout
      intro K Q hK
      go_simp
      exact hK _ _ ⟨Same.refl _, rfl⟩
    refine allp_wild 0 rfl rfl rfl (fun a x W hout hin hP => ?_) ?_
    · have e4 : a.tmps[4]? = some (.pointer (some ⟨g4, 0, none⟩)) := (hout 4 (by kernel_rfl)).trans rfl
      have e14 := hin.is 5 14 (by kernel_rfl) (by decide) (by kernel_rfl) (by kernel_rfl) _ rfl
      clear hin hout
      intro K Q hK
      refine wp_st_store hP 2 0 27 (.tmp 4) (.tmp 14) rfl rfl (eval_of_get e4) (.agg (dlabC (freshD D L))) (eval_of_get e14) (by exact size_dlab) (Nat.le_refl 5) (by exact one_dlab (freshD D L)) (dlabC (freshD D L)) (by exact spl_agg _ _ _ rfl rfl) (fun W9 HSx => hK _ _ ⟨HSx, trivial⟩)
    exact all_end (by decide)
  · intro x W hP hV
    have HS := hP
    clear hP hV
    simp only [putL, Act.put, List.setIfInBounds_toArray, List.set_cons_succ, List.set_cons_zero]
    refine wpAnyH_done (by kernel_rfl) ?_ _
    go_wp2_with fail
    refine bodyPost_ret (results_cell_row Try.results11 _ _ g4 27 (dlabC (freshD D L)) (0, 0) _ rfl (HS.row 2 rfl) Try.underlying27 rfl (by exact size_dlab)) rfl ?_
    exact ⟨rfl, HS.below⟩

set_option maxHeartbeats 800000 in
theorem rfresh_any (D : Dsk) (L : DLab) (w : World) : Calls Try.prog 12 #[.agg (dskC D), .agg (dlabC L)] w fun x w' => x = .returned (.agg (dlabC (freshD D L))) ∧ Below w.heap.size w w' := by
  have HS := St.nil w noF
  obtain ⟨p, ep, sy⟩ := D
  cases sy
  case true =>
    go_enter Try.func12, Try.ntmps12
    go_upto_region 1 with (first | ((with_reducible refine wpList_plain ?_ ?_); exact rfl; intro KK hKK; refine wp_st_box HS 30 (.tmp 0) rfl _ rfl (dskC ⟨p, ep, true⟩) (rfl) (fun g2 W1 HSx => hKK _ _ ?_); clear hKK KK HS; have HS : St w noF [⟨g2, 30, dskC ⟨p, ep, true⟩⟩] W1 := HSx; clear HSx) | ((with_reducible refine wpList_plain ?_ ?_); exact rfl; intro KK hKK; refine wp_st_box HS 27 (.tmp 1) rfl _ rfl (dlabC L) (rfl) (fun g3 W2 HSx => hKK _ _ ?_); clear hKK KK HS; have HS : St w noF [⟨g2, 30, dskC ⟨p, ep, true⟩⟩, ⟨g3, 27, dlabC L⟩] W2 := HSx; clear HSx) | ((with_reducible refine wpList_plain ?_ ?_); exact rfl; intro KK hKK; refine wp_st_alloc HS 27 (#[.int .u32 0, .int .u32 0, .int .u32 0, .int .u16 0, .int .u16 0]) rfl (.agg (#[.int .u32 0, .int .u32 0, .int .u32 0, .int .u16 0, .int .u16 0])) (by kernel_rfl) (rfl) (fun g4 W3 HSx => hKK _ _ ?_); clear hKK KK HS; have HS : St w noF [⟨g2, 30, dskC ⟨p, ep, true⟩⟩, ⟨g3, 27, dlabC L⟩, ⟨g4, 27, #[.int .u32 0, .int .u32 0, .int .u32 0, .int .u16 0, .int .u16 0]⟩] W3 := HSx; clear HSx))
    have c1 : W3.cell? ⟨g2, 1, none⟩ = some (.int .u32 (wd ep)) := (HS.row 0 rfl).get rfl
    go_upto_region 2 with (first | ((with_reducible refine wpList_plain ?_ ?_); exact rfl; intro KK hKK; refine wp_st_alloc HS 27 (#[.int .u32 0, .int .u32 0, .int .u32 0, .int .u16 0, .int .u16 0]) rfl (.agg (#[.int .u32 0, .int .u32 0, .int .u32 0, .int .u16 0, .int .u16 0])) (by kernel_rfl) (rfl) (fun g5 W4 HSx => hKK _ _ ?_); clear hKK KK HS; have HS : St w noF [⟨g2, 30, dskC ⟨p, ep, true⟩⟩, ⟨g3, 27, dlabC L⟩, ⟨g4, 27, #[.int .u32 0, .int .u32 0, .int .u32 0, .int .u16 0, .int .u16 0]⟩, ⟨g5, 27, #[.int .u32 0, .int .u32 0, .int .u32 0, .int .u16 0, .int .u16 0]⟩] W4 := HSx; clear HSx) | ((with_reducible refine wpList_plain ?_ ?_); exact rfl; intro KK hKK; refine wp_st_store HS 3 0 27 (.tmp 5) (.tmp 9) rfl rfl rfl (.agg (dlabC ⟨ep + 1#32, 0#32, 1#32, 4095#16, 0#16⟩)) rfl (by exact size_dlab) (Nat.le_refl 5) (by exact one_dlab ⟨ep + 1#32, 0#32, 1#32, 4095#16, 0#16⟩) (dlabC ⟨ep + 1#32, 0#32, 1#32, 4095#16, 0#16⟩) (by exact spl_agg _ _ _ rfl rfl) (fun W5 HSx => hKK _ _ ?_); clear hKK KK HS; have HS : St w noF [⟨g2, 30, dskC ⟨p, ep, true⟩⟩, ⟨g3, 27, dlabC L⟩, ⟨g4, 27, #[.int .u32 0, .int .u32 0, .int .u32 0, .int .u16 0, .int .u16 0]⟩, ⟨g5, 27, dlabC ⟨ep + 1#32, 0#32, 1#32, 4095#16, 0#16⟩⟩] W5 := HSx; clear HSx))
    clear c1
    have c2 : W5.cell? ⟨g2, 2, none⟩ = some (.bool true) := (HS.row 0 rfl).get rfl
    have d3 : W5.cell? ⟨g3, 3, none⟩ = some (.int .u16 (hd L.d)) := (HS.row 1 rfl).get rfl
    have d4 : W5.cell? ⟨g3, 4, none⟩ = some (.int .u16 (hd L.l)) := (HS.row 1 rfl).get rfl
    go_upto_region 4 with (first | ((with_reducible refine wpList_plain ?_ ?_); exact rfl; intro KK hKK; refine wp_st_put HS 3 3 25 (.tmp 17) (.tmp 16) rfl rfl rfl (.int .u16 (hd (L.d ||| L.l))) rfl (by kernel_rfl) rfl rfl (by show 3 < 5; decide) (dlabC (freshD ⟨p, ep, true⟩ L)) (by exact rfl) (fun W6 HSx => hKK _ _ ?_); clear hKK KK HS; have HS : St w noF [⟨g2, 30, dskC ⟨p, ep, true⟩⟩, ⟨g3, 27, dlabC L⟩, ⟨g4, 27, #[.int .u32 0, .int .u32 0, .int .u32 0, .int .u16 0, .int .u16 0]⟩, ⟨g5, 27, dlabC (freshD ⟨p, ep, true⟩ L)⟩] W6 := HSx; clear HSx))
    clear c2 d3 d4
    go_wp2_with (first | ((with_reducible refine wpList_plain ?_ ?_); exact rfl; intro KK hKK; refine wp_st_load HS 3 0 27 (.tmp 5) rfl rfl rfl (dlabC (freshD ⟨p, ep, true⟩ L)) (slab_whole _) _ Try.underlying27 rfl (by exact size_dlab) (hKK _ _ ?_); clear hKK KK) | ((with_reducible refine wpList_plain ?_ ?_); exact rfl; intro KK hKK; refine wp_st_store HS 2 0 27 (.tmp 4) (.tmp 18) rfl rfl rfl (.agg (dlabC (freshD ⟨p, ep, true⟩ L))) rfl (by exact size_dlab) (Nat.le_refl 5) (by exact one_dlab (freshD ⟨p, ep, true⟩ L)) (dlabC (freshD ⟨p, ep, true⟩ L)) (by exact spl_agg _ _ _ rfl rfl) (fun W7 HSx => hKK _ _ ?_); clear hKK KK HS; have HS : St w noF [⟨g2, 30, dskC ⟨p, ep, true⟩⟩, ⟨g3, 27, dlabC L⟩, ⟨g4, 27, dlabC (freshD ⟨p, ep, true⟩ L)⟩, ⟨g5, 27, dlabC (freshD ⟨p, ep, true⟩ L)⟩] W7 := HSx; clear HSx))
    refine bodyPost_ret (results_cell_row Try.results12 _ _ g4 27 (dlabC (freshD ⟨p, ep, true⟩ L)) (0, 0) _ rfl (HS.row 2 rfl) Try.underlying27 rfl (by exact size_dlab)) rfl ?_
    exact ⟨rfl, HS.below⟩
  case false =>
    go_enter Try.func12, Try.ntmps12
    go_upto_region 1 with (first | ((with_reducible refine wpList_plain ?_ ?_); exact rfl; intro KK hKK; refine wp_st_box HS 30 (.tmp 0) rfl _ rfl (dskC ⟨p, ep, false⟩) (rfl) (fun g2 W1 HSx => hKK _ _ ?_); clear hKK KK HS; have HS : St w noF [⟨g2, 30, dskC ⟨p, ep, false⟩⟩] W1 := HSx; clear HSx) | ((with_reducible refine wpList_plain ?_ ?_); exact rfl; intro KK hKK; refine wp_st_box HS 27 (.tmp 1) rfl _ rfl (dlabC L) (rfl) (fun g3 W2 HSx => hKK _ _ ?_); clear hKK KK HS; have HS : St w noF [⟨g2, 30, dskC ⟨p, ep, false⟩⟩, ⟨g3, 27, dlabC L⟩] W2 := HSx; clear HSx) | ((with_reducible refine wpList_plain ?_ ?_); exact rfl; intro KK hKK; refine wp_st_alloc HS 27 (#[.int .u32 0, .int .u32 0, .int .u32 0, .int .u16 0, .int .u16 0]) rfl (.agg (#[.int .u32 0, .int .u32 0, .int .u32 0, .int .u16 0, .int .u16 0])) (by kernel_rfl) (rfl) (fun g4 W3 HSx => hKK _ _ ?_); clear hKK KK HS; have HS : St w noF [⟨g2, 30, dskC ⟨p, ep, false⟩⟩, ⟨g3, 27, dlabC L⟩, ⟨g4, 27, #[.int .u32 0, .int .u32 0, .int .u32 0, .int .u16 0, .int .u16 0]⟩] W3 := HSx; clear HSx))
    have c1 : W3.cell? ⟨g2, 1, none⟩ = some (.int .u32 (wd ep)) := (HS.row 0 rfl).get rfl
    go_upto_region 2 with (first | ((with_reducible refine wpList_plain ?_ ?_); exact rfl; intro KK hKK; refine wp_st_alloc HS 27 (#[.int .u32 0, .int .u32 0, .int .u32 0, .int .u16 0, .int .u16 0]) rfl (.agg (#[.int .u32 0, .int .u32 0, .int .u32 0, .int .u16 0, .int .u16 0])) (by kernel_rfl) (rfl) (fun g5 W4 HSx => hKK _ _ ?_); clear hKK KK HS; have HS : St w noF [⟨g2, 30, dskC ⟨p, ep, false⟩⟩, ⟨g3, 27, dlabC L⟩, ⟨g4, 27, #[.int .u32 0, .int .u32 0, .int .u32 0, .int .u16 0, .int .u16 0]⟩, ⟨g5, 27, #[.int .u32 0, .int .u32 0, .int .u32 0, .int .u16 0, .int .u16 0]⟩] W4 := HSx; clear HSx) | ((with_reducible refine wpList_plain ?_ ?_); exact rfl; intro KK hKK; refine wp_st_store HS 3 0 27 (.tmp 5) (.tmp 9) rfl rfl rfl (.agg (dlabC ⟨ep + 1#32, 0#32, 1#32, 4095#16, 0#16⟩)) rfl (by exact size_dlab) (Nat.le_refl 5) (by exact one_dlab ⟨ep + 1#32, 0#32, 1#32, 4095#16, 0#16⟩) (dlabC ⟨ep + 1#32, 0#32, 1#32, 4095#16, 0#16⟩) (by exact spl_agg _ _ _ rfl rfl) (fun W5 HSx => hKK _ _ ?_); clear hKK KK HS; have HS : St w noF [⟨g2, 30, dskC ⟨p, ep, false⟩⟩, ⟨g3, 27, dlabC L⟩, ⟨g4, 27, #[.int .u32 0, .int .u32 0, .int .u32 0, .int .u16 0, .int .u16 0]⟩, ⟨g5, 27, dlabC ⟨ep + 1#32, 0#32, 1#32, 4095#16, 0#16⟩⟩] W5 := HSx; clear HSx))
    clear c1
    have c2 : W5.cell? ⟨g2, 2, none⟩ = some (.bool false) := (HS.row 0 rfl).get rfl
    go_upto_region 4 with fail
    clear c2
    go_wp2_with (first | ((with_reducible refine wpList_plain ?_ ?_); exact rfl; intro KK hKK; refine wp_st_load HS 3 0 27 (.tmp 5) rfl rfl rfl (dlabC ⟨ep + 1#32, 0#32, 1#32, 4095#16, 0#16⟩) (slab_whole _) _ Try.underlying27 rfl (by exact size_dlab) (hKK _ _ ?_); clear hKK KK) | ((with_reducible refine wpList_plain ?_ ?_); exact rfl; intro KK hKK; refine wp_st_store HS 2 0 27 (.tmp 4) (.tmp 18) rfl rfl rfl (.agg (dlabC (freshD ⟨p, ep, false⟩ L))) rfl (by exact size_dlab) (Nat.le_refl 5) (by exact one_dlab (freshD ⟨p, ep, false⟩ L)) (dlabC (freshD ⟨p, ep, false⟩ L)) (by exact spl_agg _ _ _ rfl rfl) (fun W6 HSx => hKK _ _ ?_); clear hKK KK HS; have HS : St w noF [⟨g2, 30, dskC ⟨p, ep, false⟩⟩, ⟨g3, 27, dlabC L⟩, ⟨g4, 27, dlabC (freshD ⟨p, ep, false⟩ L)⟩, ⟨g5, 27, dlabC ⟨ep + 1#32, 0#32, 1#32, 4095#16, 0#16⟩⟩] W6 := HSx; clear HSx))
    refine bodyPost_ret (results_cell_row Try.results12 _ _ g4 27 (dlabC (freshD ⟨p, ep, false⟩ L)) (0, 0) _ rfl (HS.row 2 rfl) Try.underlying27 rfl (by exact size_dlab)) rfl ?_
    exact ⟨rfl, HS.below⟩
end Go.Proofs.Ytpnndkobaikhfaa
