/- The program's Read. -/
import Derived.Test.YteehpdeeaebliaaDiskPrgU
import Derived.Test.YteehpdeeaebliaaDiskIf
namespace Go.Proofs.Yteehpdeeaebliaa
open Go Go.RowKit
theorem p_sec_at {base : Nat} {w : World} {g gs n cs i : Nat} {vl : Value} {M : DiskM} (h : p_RefD base w g (.slice (some ⟨gs, 0, none⟩) n cs) vl M) (hi : i < M.s.length) : w.rangeAt gs (i * 32) (bs (M.s.getD i [])).toList := by
  have hs := h.sec
  rw [own_n hs] at hs
  have := own_elem hs (sec_len h.ok.s) (k := i) (c := bytesV (M.s.getD i [])) (by simp [List.getD_eq_getElem?_getD, hi])
  rw [bs_toList]; exact this
set_option maxRecDepth 20000 in
set_option maxHeartbeats 800000 in
theorem p_read_at (base : Nat) (w : World) (g : Nat) (vs vl : Value) (M : DiskM) (i : Nat) (h : p_RefD base w g vs vl M) (hl : M.l.length ≤ 1000000000) (hi : i < M.s.length) (hdn : M.down = false) :
    Calls Try.prog 15 #[.pointer (some ⟨g, 0, none⟩), .int .i64 (i : Int)] w fun e w' => e = .returned (.tuple #[.agg (bs (M.now i)), .int .i64 0]) ∧ Below w.heap.size w w' := by
  have hb1 := (Below.refl w.heap.size w).alloc (Nat.le_refl _) (.cells (bs (blk 0#8)) 37)
  have H := Lib.hid (h.below hb1)
  have C1 := p_refhas_any base _ g vs vl M i H.out
  rw [show M.has i = true by unfold DiskM.has; rw [decide_eq_true (by omega), decide_eq_true (by omega)]; rfl] at C1
  have k3 : (w.alloc (.cells (bs (blk 0#8)) 37)).cell? ⟨g, 3, none⟩ = some (.bool M.down) := H.out.row.get rfl
  rw [hdn] at k3
  obtain ⟨gs, n, cs, rfl, hnn⟩ : ∃ gs n cs, vs = .slice (some ⟨gs, 0, none⟩) n cs ∧ M.s.length = n := by
    rcases h.sec.2 with ⟨_, h0⟩ | ⟨gs, cs, _, e, _⟩
    · have := h.ok.lo; omega
    · exact ⟨gs, _, cs, e, rfl⟩
  obtain ⟨Al, m, cl, rfl, hmm⟩ : ∃ Al m cl, vl = .slice Al m cl ∧ M.l.length = m := by
    obtain ⟨A, c, e, _⟩ := own_slice_form h.loo
    exact ⟨A, _, c, e, rfl⟩
  have k0 : (w.alloc (.cells (bs (blk 0#8)) 37)).cell? ⟨g, 0, none⟩ = some (.slice (some ⟨gs, 0, none⟩) n cs) := H.out.row.get rfl
  have k1 : (w.alloc (.cells (bs (blk 0#8)) 37)).cell? ⟨g, 1, none⟩ = some (.slice Al m cl) := H.out.row.get rfl
  have HN := Lib.hid hnn
  have HM := Lib.hid hmm
  have HI := Lib.hid hi
  have hn := h.ok.hi
  rw [hnn] at hn hi
  rw [hmm] at hl
  have hz := zeros_blk
  have H0 : Hid ((bs (blk 0#8)).size = 32) := Lib.hid (by rw [size_bs]; exact length_blk _)
  have rz := Row.fresh w 37 (bs (blk 0#8))
  obtain ⟨D, hD⟩ : ∃ D : Nat → List (BitVec 8), ∀ k, (DiskM.put M.s (M.l.take k)).getD i [] = D k := ⟨_, fun _ => rfl⟩
  have HD := Lib.hid hD
  have HL : Hid (∀ k, (D k).length = 32) := Lib.hid fun k => by rw [← hD k]; exact now_len h.ok i HI.out k
  have r1 : (w.alloc (.cells (bs (blk 0#8)) 37)).rangeAt gs (i * 32) (bs (D 0)).toList := by rw [← hD 0]; exact p_sec_at H.out HI.out
  have hE : M.now i = D m := by rw [← hD m, ← hmm, List.take_length]; rfl
  rw [hE]
  have HB1 := Lib.hid hb1
  have hi0 : (0 : Int) ≤ (i : Int) := by omega
  have hi1 : (i : Int) < (n : Int) := by omega
  clear hE h hnn hmm hi hD hdn hb1
  go_enter Try.func15, Try.ntmps15
  go_wp2_with fail
  refine C1.mono ?_
  rintro e w1 ⟨rfl, rfl⟩
  clear C1
  go_wp2_with fail
  clear k3
  go_loopw [6] (fun j wr => wr = w.alloc (.cells (bs (blk 0#8)) 37) ∧ ∃ (k : Nat) (J : Int), j = .int .i64 J ∧ J + 1 = k ∧ k ≤ m ∧ D k = D m) (fun j _ => (intOf j + 1).toNat)
  case atStart => exact ⟨rfl, m, (m : Int) - 1, by go_num, by omega, Nat.le_refl _, rfl⟩
  case round =>
    obtain ⟨rfl, k, J, rfl, hJ, hk, hDk⟩ := hrel
    rcases k with _ | k
    · obtain rfl : J = -1 := by omega
      rw [hDk] at r1
      clear k1 hk hJ
      go_wp2_with (first | (refine wpList_load_mid rfl 37 _ rfl gs (i * 32) rfl (bs (D m)).toList _ r1 Try.underlying37 rfl (by rw [len_bs, HL.out]; exact size_blk) ?_) | (refine wpList_store_row rfl 37 _ _ rfl w.heap.size (bs (D m)) rfl rfl 37 _ rz (by rw [size_bs, HL.out]; exact size_blk) (by rw [H0.out, size_bs, HL.out]) (one_bs _) ?_))
      exact bodyPost_ret (v := .tuple #[.agg (bs (D m)), .int .i64 0]) (results_cell_tmp Try.results15 _ _ w.heap.size 37 (bs (D m)) (0, 0) _ rfl (rz.setRow _) Try.underlying37 rfl (by rw [size_bs, HL.out]; exact size_blk)) rfl ⟨rfl, below_setRow HB1.out (Nat.le_refl _) _⟩
    · obtain rfl : J = (k : Int) := by omega
      obtain ⟨⟨I, b⟩, hx⟩ : ∃ x, M.l[k]? = some x := ⟨_, List.getElem?_eq_getElem (by rw [HM.out]; omega)⟩
      obtain ⟨gl, rfl⟩ : ∃ gl, Al = some ⟨gl, 0, none⟩ := by
        rcases H.out.loo.2 with ⟨_, h0⟩ | ⟨gl, _, _, e, _⟩
        · rw [HM.out] at h0
          omega
        · injection e with e _ _; exact ⟨gl, e⟩
      have hst := now_step M.s M.l k i (I, b) hx HI.out
      rw [HD.out, HD.out, hDk] at hst
      have HST := Lib.hid hst
      have hc := p_wcell_i H.out hx
      have hr := p_wcell_b H.out hx
      have HB : Hid (b.length = 32) := Lib.hid (H.out.ok.l (I, b) (List.mem_of_getElem? hx)).2
      have hk0 : (0 : Int) ≤ (k : Int) := by omega
      have hk1 : (k : Int) < (m : Int) := by omega
      clear hst hx hDk r1 k0 hi0 hi1
      by_cases hIi : I = i
      · subst hIi
        have e1 : Hid (D m = b) := Lib.hid (by rw [HST.out, if_pos rfl])
        go_wp2_with (first | (refine wpList_load_mid rfl 37 _ rfl gl (k * 33 + 1) rfl (bs b).toList _ hr Try.underlying37 rfl (by rw [len_bs, HB.out]; exact size_blk) ?_) | (refine wpList_store_row rfl 37 _ _ rfl w.heap.size (bs b) rfl rfl 37 _ rz (by rw [size_bs, HB.out]; exact size_blk) (by rw [H0.out, size_bs, HB.out]) (one_bs _) ?_))
        exact bodyPost_ret (v := .tuple #[.agg (bs b), .int .i64 0]) (results_cell_tmp Try.results15 _ _ w.heap.size 37 (bs b) (0, 0) _ rfl (rz.setRow _) Try.underlying37 rfl (by rw [size_bs, HB.out]; exact size_blk)) rfl ⟨by rw [e1.out], below_setRow HB1.out (Nat.le_refl _) _⟩
      · have hne : ((I : Int) == (i : Int)) = false := beq_eq_false_iff_ne.2 (by omega)
        go_wp2_with fail
        exact ⟨⟨trivial, k, (k : Int) - 1, by go_num, by omega, by omega, by rw [HST.out, if_neg hIi]⟩, by simp [intOf] <;> omega⟩
set_option maxRecDepth 20000 in
set_option maxHeartbeats 800000 in
theorem p_read_no (w : World) (p : Value) (i : Int) (C1 : Calls Try.prog 26 #[p, .int .i64 i] (w.alloc (.cells (bs (blk 0#8)) 37)) fun e w' => e = .returned (.bool false) ∧ w.alloc (.cells (bs (blk 0#8)) 37) = w') :
    Calls Try.prog 15 #[p, .int .i64 i] w fun e w' => e = .returned (.tuple #[.agg (bs (blk 0#8)), .int .i64 1]) ∧ Below w.heap.size w w' := by
  have hb1 := (Below.refl w.heap.size w).alloc (Nat.le_refl _) (.cells (bs (blk 0#8)) 37)
  have hz := zeros_blk
  have H0 : Hid ((bs (blk 0#8)).size = 32) := Lib.hid (by rw [size_bs]; exact length_blk _)
  have rz := Row.fresh w 37 (bs (blk 0#8))
  go_enter Try.func15, Try.ntmps15
  go_wp2_with fail
  refine C1.mono ?_
  rintro e w1 ⟨rfl, rfl⟩
  clear C1
  go_wp2_with (first | (refine wpList_store_row rfl 37 _ _ rfl w.heap.size (bs (blk 0#8)) rfl rfl 37 _ rz (by rw [H0.out]; exact size_blk) rfl (one_bs _) ?_))
  exact bodyPost_ret (v := .tuple #[.agg (bs (blk 0#8)), .int .i64 1]) (results_cell_tmp Try.results15 _ _ w.heap.size 37 (bs (blk 0#8)) (0, 0) _ rfl (rz.setRow _) Try.underlying37 rfl (by rw [H0.out]; exact size_blk)) rfl ⟨rfl, below_setRow hb1 (Nat.le_refl _) _⟩
set_option maxRecDepth 20000 in
set_option maxHeartbeats 800000 in
theorem p_refread_any (base : Nat) (w : World) (g : Nat) (vs vl : Value) (M : DiskM) (i : Int) (h : p_RefD base w g vs vl M) (hl : M.l.length ≤ 1000000000) :
    Calls Try.prog 15 #[.pointer (some ⟨g, 0, none⟩), .int .i64 i] w (Asks w (.tuple #[.agg (bs (M.rRes i).1), .int .i64 (M.rRes i).2])) := by
  have hb1 := (Below.refl w.heap.size w).alloc (Nat.le_refl _) (.cells (bs (blk 0#8)) 37)
  have H := Lib.hid (h.below hb1)
  have C1 := p_refhas_any base _ g vs vl M i H.out
  by_cases hh : M.has i = true
  · obtain ⟨n, rfl, hn⟩ : ∃ n : Nat, i = (n : Int) ∧ n < M.s.length := by
      unfold DiskM.has at hh
      simp only [Bool.and_eq_true, decide_eq_true_eq] at hh
      exact ⟨i.toNat, by omega, by omega⟩
    rw [hh] at C1
    cases hd : M.down with
    | true =>
      have e0 : M.rRes n = (blk 0#8, 20) := by unfold DiskM.rRes; rw [hh, hd]; rfl
      rw [e0]
      have hz := zeros_blk
      have H0 : Hid ((bs (blk 0#8)).size = 32) := Lib.hid (by rw [size_bs]; exact length_blk _)
      have rz := Row.fresh w 37 (bs (blk 0#8))
      have k3 : (w.alloc (.cells (bs (blk 0#8)) 37)).cell? ⟨g, 3, none⟩ = some (.bool M.down) := H.out.row.get rfl
      rw [hd] at k3
      clear h hh e0 hd hn
      go_enter Try.func15, Try.ntmps15
      go_wp2_with fail
      refine C1.mono ?_
      rintro e w1 ⟨rfl, rfl⟩
      clear C1
      go_wp2_with (first | (refine wpList_store_row rfl 37 _ _ rfl w.heap.size (bs (blk 0#8)) rfl rfl 37 _ rz (by rw [H0.out]; exact size_blk) rfl (one_bs _) ?_))
      exact bodyPost_ret (v := .tuple #[.agg (bs (blk 0#8)), .int .i64 20]) (results_cell_tmp Try.results15 _ _ w.heap.size 37 (bs (blk 0#8)) (0, 0) _ rfl (rz.setRow _) Try.underlying37 rfl (by rw [H0.out]; exact size_blk)) rfl ⟨rfl, below_setRow hb1 (Nat.le_refl _) _⟩
    | false =>
      have e0 : M.rRes n = (M.now n, 0) := by unfold DiskM.rRes; rw [hh, hd]; rfl
      rw [e0]
      exact p_read_at base w g vs vl M n h hl hn hd
  · have hh' : M.has i = false := by simpa using hh
    have e0 : M.rRes i = (blk 0#8, 1) := by unfold DiskM.rRes; rw [hh']; rfl
    rw [hh'] at C1
    rw [e0]
    exact p_read_no w _ i C1
end Go.Proofs.Yteehpdeeaebliaa
