/- The document's Read (and what a sector is). -/
import Derived.Test.YteehpdeeaebliaaDiskRefU
namespace Go.Proofs.Yteehpdeeaebliaa
open Go Go.RowKit
theorem now_step (s : List (List (BitVec 8))) (l : List (Nat × List (BitVec 8))) (k i : Nat) (x : Nat × List (BitVec 8)) (hx : l[k]? = some x) (hi : i < s.length) : (DiskM.put s (l.take (k + 1))).getD i [] = if x.1 = i then x.2 else (DiskM.put s (l.take k)).getD i [] := by
  rw [take_put s l k x hx]
  have hl := DiskM.length_put (l.take k) s
  by_cases h : x.1 = i
  · rw [if_pos h, ← h]
    simp [List.getD_eq_getElem?_getD, hl, show x.1 < s.length by omega]
  · rw [if_neg h]
    simp [List.getD_eq_getElem?_getD, h]
theorem now_len {M : DiskM} (h : M.Ok) (i : Nat) (hi : i < M.s.length) (k : Nat) : ((DiskM.put M.s (M.l.take k)).getD i []).length = 32 := by
  have hl := DiskM.length_put (M.l.take k) M.s
  have hm : (DiskM.put M.s (M.l.take k)).getD i [] ∈ DiskM.put M.s (M.l.take k) := by
    rw [List.getD_eq_getElem?_getD, List.getElem?_eq_getElem (by omega)]; exact List.getElem_mem _
  exact DiskM.put_len _ _ h.s (fun x hx => (h.l x (List.mem_of_mem_take hx)).2) _ hm
def NowRel (w : World) (b : List (BitVec 8)) (wr : World) : Prop := Row wr (w.heap.size + 1) 37 (bs b) ∧ Row wr w.heap.size 37 (bs (blk 0#8)) ∧ Below w.heap.size w wr
theorem sec_at {base : Nat} {w : World} {g gs n cs i : Nat} {vl : Value} {M : DiskM} (h : RefD base w g (.slice (some ⟨gs, 0, none⟩) n cs) vl M) (hi : i < M.s.length) : w.rangeAt gs (i * 32) (bs (M.s.getD i [])).toList := by
  have hs := h.sec
  rw [own_n hs] at hs
  have := own_elem hs (sec_len h.ok.s) (k := i) (c := bytesV (M.s.getD i [])) (by simp [List.getD_eq_getElem?_getD, hi])
  rw [bs_toList]; exact this
set_option maxRecDepth 20000 in
set_option maxHeartbeats 800000 in
theorem refnow_any (base : Nat) (w : World) (g : Nat) (vs vl : Value) (M : DiskM) (i : Nat) (h : RefD base w g vs vl M) (hl : M.l.length ≤ 1000000000) (hi : i < M.s.length) :
    Calls Try.prog 30 #[.pointer (some ⟨g, 0, none⟩), .int .i64 (i : Int)] w fun e w' => e = .returned (.agg (bs (M.now i))) ∧ Below w.heap.size w w' := by
  have H := Lib.hid h
  obtain ⟨gs, n, cs, rfl, hnn⟩ : ∃ gs n cs, vs = .slice (some ⟨gs, 0, none⟩) n cs ∧ M.s.length = n := by
    rcases h.sec.2 with ⟨_, h0⟩ | ⟨gs, cs, _, e, _⟩
    · have := h.ok.lo; omega
    · exact ⟨gs, _, cs, e, rfl⟩
  obtain ⟨Al, m, cl, rfl, hmm⟩ : ∃ Al m cl, vl = .slice Al m cl ∧ M.l.length = m := by
    obtain ⟨A, c, e, _⟩ := own_slice_form h.loo
    exact ⟨A, _, c, e, rfl⟩
  have HN := Lib.hid hnn
  have HM := Lib.hid hmm
  have HI := Lib.hid hi
  have hn := h.ok.hi
  rw [hnn] at hn hi
  rw [hmm] at hl
  have hb2 : ∀ (o1 o2 : Obj), Below w.heap.size w ((w.alloc o1).alloc o2) := fun o1 o2 => ((Below.refl _ _).alloc (Nat.le_refl _) o1).alloc (by simp) o2
  have hz : (#[.int .u8 0, .int .u8 0, .int .u8 0, .int .u8 0, .int .u8 0, .int .u8 0, .int .u8 0, .int .u8 0, .int .u8 0, .int .u8 0, .int .u8 0, .int .u8 0, .int .u8 0, .int .u8 0, .int .u8 0, .int .u8 0, .int .u8 0, .int .u8 0, .int .u8 0, .int .u8 0, .int .u8 0, .int .u8 0, .int .u8 0, .int .u8 0, .int .u8 0, .int .u8 0, .int .u8 0, .int .u8 0, .int .u8 0, .int .u8 0, .int .u8 0, .int .u8 0] : Array Value) = bs (blk 0#8) := by rfl
  have k0 : ∀ o : Obj, (w.alloc o).cell? ⟨g, 0, none⟩ = some (.slice (some ⟨gs, 0, none⟩) n cs) := fun o => (World.cell?_alloc_lt w o ⟨g, 0, none⟩ h.row.lt).trans (h.row.get rfl)
  obtain ⟨D, hD⟩ : ∃ D : Nat → List (BitVec 8), ∀ k, (DiskM.put M.s (M.l.take k)).getD i [] = D k := ⟨_, fun _ => rfl⟩
  have HD := Lib.hid hD
  have r0 := sec_at h HI.out
  have r1 : (w.alloc (.cells (bs (blk 0#8)) 37)).rangeAt gs (i * 32) (bs (D 0)).toList := World.rangeAt_alloc (by rw [← hD 0]; exact r0) _
  have HL : Hid (∀ k, (D k).length = 32) := Lib.hid fun k => by rw [← hD k]; exact now_len h.ok i HI.out k
  have hi0 : (0 : Int) ≤ (i : Int) := by omega
  have hi1 : (i : Int) < (n : Int) := by omega
  clear h hnn hmm r0 hi hD
  go_enter Try.func30, Try.ntmps30
  go_wp2_with (first | (refine wpList_load_mid rfl 37 _ rfl gs (i * 32) rfl (bs (D 0)).toList _ r1 Try.underlying37 rfl (by rw [len_bs, HL.out]; exact size_blk) ?_) | (refine wpList_store_row rfl 37 _ _ rfl (w.heap.size + 1) (bs (D 0)) rfl rfl 37 _ (row2b _ _ _ _) (by rw [size_bs, HL.out]; exact size_blk) (by rw [size_bs, size_bs, HL.out]; rfl) (one_bs _) ?_; rw [setRow_alloc2]))
  clear k0 r1
  go_loopw [6] (fun j wr => ∃ k : Nat, k ≤ m ∧ j = .int .i64 k ∧ NowRel w (D k) wr) (fun j _ => m - (intOf j).toNat)
  case atStart => exact ⟨0, by omega, rfl, row2b _ _ _ _, (Row.fresh _ _ _).alloc _, hb2 _ _⟩
  case round =>
    obtain ⟨k, hk, rfl, rb, rz, hb⟩ := hrel
    have HR := Lib.hid (H.out.keep (F := fun _ => False) (Chg.of_below hb) id (fun _ _ => id) (fun _ _ => id))
    have k1 : wr.cell? ⟨g, 1, none⟩ = some (.slice Al m cl) := HR.out.row.get rfl
    clear hb2 hi1 hi0
    by_cases hlt : k < m
    · obtain ⟨⟨I, b⟩, hx⟩ : ∃ x, M.l[k]? = some x := ⟨_, List.getElem?_eq_getElem (by rw [HM.out]; exact hlt)⟩
      obtain ⟨gl, rfl⟩ : ∃ gl, Al = some ⟨gl, 0, none⟩ := by
        rcases HR.out.loo.2 with ⟨_, h0⟩ | ⟨gl, _, _, e, _⟩
        · rw [HM.out] at h0
          omega
        · injection e with e _ _; exact ⟨gl, e⟩
      have hst := now_step M.s M.l k i (I, b) hx HI.out
      rw [HD.out, HD.out] at hst
      have HST := Lib.hid hst
      have hc := wcell_i HR.out hx
      have hr := wcell_b HR.out hx
      have HB : Hid (b.length = 32) := Lib.hid (HR.out.ok.l (I, b) (List.mem_of_getElem? hx)).2
      have hk0 : (0 : Int) ≤ (k : Int) := by omega
      have hk1 : (k : Int) < (m : Int) := by omega
      clear hst hx
      by_cases hIi : I = i
      · subst hIi
        go_wp2_with (first | (refine wpList_load_mid rfl 37 _ rfl gl (k * 33 + 1) rfl (bs b).toList _ hr Try.underlying37 rfl (by rw [len_bs, HB.out]; exact size_blk) ?_) | (refine wpList_store_row rfl 37 _ _ rfl (w.heap.size + 1) (bs b) rfl rfl 37 _ rb (by rw [size_bs, HB.out]; exact size_blk) (by rw [size_bs, size_bs, HB.out, HL.out]) (one_bs _) ?_))
        exact ⟨⟨k + 1, by omega, by go_num, by rw [HST.out, if_pos rfl]; exact ⟨rb.setRow _, rz.setRow_far (by omega) _, below_setRow hb (by omega) _⟩⟩, by simp [intOf]; omega⟩
      · have hne : ((I : Int) == (i : Int)) = false := beq_eq_false_iff_ne.2 (by omega)
        go_wp2_with fail
        exact ⟨⟨k + 1, by omega, by go_num, by rw [HST.out, if_neg hIi]; exact ⟨rb, rz, hb⟩⟩, by simp [intOf]; omega⟩
    · obtain rfl : k = m := by omega
      have e1 : D k = M.now i := by rw [← HD.out, ← HM.out, List.take_length]; rfl
      have H0 : Hid ((bs (blk 0#8)).size = 32) := Lib.hid (by rw [size_bs]; exact length_blk _)
      have rbr := row_range rb (Below.refl wr.heap.size wr) rb.lt
      go_wp2_with (first | (refine wpList_load_mid rfl 37 _ rfl (w.heap.size + 1) 0 rfl (bs (D k)).toList _ rbr Try.underlying37 rfl (by rw [len_bs, HL.out]; exact size_blk) ?_) | (refine wpList_store_row rfl 37 _ _ rfl w.heap.size (bs (D k)) rfl rfl 37 _ rz (by rw [size_bs, HL.out]; exact size_blk) (by rw [H0.out, size_bs, HL.out]) (one_bs _) ?_))
      rw [← e1]
      exact bodyPost_ret (v := .agg (bs (D k))) (results_cell_row Try.results30 _ _ w.heap.size 37 (bs (D k)) (0, 0) _ rfl (rz.setRow _) Try.underlying37 rfl (by rw [size_bs, HL.out]; exact size_blk)) rfl ⟨rfl, below_setRow hb (Nat.le_refl _) _⟩
def ReadPost (w : World) (M : DiskM) (i : Int) (ea ed : Value) : Ending → World → Prop := fun e w' =>
  e = .returned (.tuple #[.agg (bs (if M.has i && !M.down then M.now i.toNat else blk 0#8)), if M.has i then (if M.down then ed else .int .i64 0) else ea]) ∧ Below w.heap.size w w'
set_option maxRecDepth 20000 in
set_option maxHeartbeats 800000 in
theorem refread_any (base : Nat) (w : World) (g : Nat) (vs vl : Value) (M : DiskM) (i : Int) (h : RefD base w g vs vl M) (hl : M.l.length ≤ 1000000000) :
    Calls Try.prog 16 #[.pointer (some ⟨g, 0, none⟩), .int .i64 i] w (ReadPost w M i (.int .i64 1) (.int .i64 20)) := by
  have hb1 := (Below.refl w.heap.size w).alloc (Nat.le_refl _) (.cells (bs (blk 0#8)) 37)
  have H := Lib.hid (h.below hb1)
  have hz := zeros_blk
  have H0 : Hid ((bs (blk 0#8)).size = 32) := Lib.hid (by rw [size_bs]; exact length_blk _)
  have rz := Row.fresh w 37 (bs (blk 0#8))
  have C1 := refhas_any base _ g vs vl M i H.out
  have k3 : (w.alloc (.cells (bs (blk 0#8)) 37)).cell? ⟨g, 3, none⟩ = some (.bool M.down) := H.out.row.get rfl
  have hgl := h.row.lt
  by_cases hh : M.has i = true
  · rw [hh] at C1
    obtain ⟨n, rfl, hn⟩ : ∃ n : Nat, i = (n : Int) ∧ n < M.s.length := by
      unfold DiskM.has at hh
      simp only [Bool.and_eq_true, decide_eq_true_eq] at hh
      exact ⟨i.toNat, by omega, by omega⟩
    cases hd : M.down with
    | true =>
      have e0 : ReadPost w M n (.int .i64 1) (.int .i64 20) = fun e w' => e = .returned (.tuple #[.agg (bs (blk 0#8)), .int .i64 20]) ∧ Below w.heap.size w w' := by
        funext e w'; unfold ReadPost; rw [hh, hd]; rfl
      rw [e0]
      rw [hd] at k3
      clear h hh e0 hd
      go_enter Try.func16, Try.ntmps16
      go_wp2_with fail
      refine C1.mono ?_
      rintro e w1 ⟨rfl, rfl⟩
      clear C1
      go_wp2_with (first | (refine wpList_store_row rfl 37 _ _ rfl w.heap.size (bs (blk 0#8)) rfl rfl 37 _ rz (by rw [H0.out]; exact size_blk) rfl (one_bs _) ?_))
      exact bodyPost_ret (v := .tuple #[.agg (bs (blk 0#8)), .int .i64 20]) (results_cell_tmp Try.results16 _ _ w.heap.size 37 (bs (blk 0#8)) (0, 0) _ rfl (rz.setRow _) Try.underlying37 rfl (by rw [H0.out]; exact size_blk)) rfl ⟨rfl, below_setRow hb1 (Nat.le_refl _) _⟩
    | false =>
      have e0 : ReadPost w M n (.int .i64 1) (.int .i64 20) = fun e w' => e = .returned (.tuple #[.agg (bs (M.now n)), .int .i64 0]) ∧ Below w.heap.size w w' := by
        funext e w'; unfold ReadPost; rw [hh, hd]; rfl
      rw [e0]
      rw [hd] at k3
      have C2 := refnow_any base _ g vs vl M n H.out hl hn
      have HL : Hid ((M.now n).length = 32) := Lib.hid (by have := now_len h.ok n hn M.l.length; rw [List.take_length] at this; exact this)
      generalize M.now n = D at *
      clear h hh e0 hd
      go_enter Try.func16, Try.ntmps16
      go_wp2_with fail
      refine C1.mono ?_
      rintro e w1 ⟨rfl, rfl⟩
      clear C1
      go_wp2_with fail
      refine C2.mono ?_
      rintro e w1 ⟨rfl, hb2⟩
      have rz2 := rz.call hb2
      have hb12 := hb1.trans (hb2.mono hb1.size)
      clear C2 hb2 rz
      go_wp2_with (first | (refine wpList_store_row rfl 37 _ _ rfl w.heap.size (bs D) rfl rfl 37 _ rz2 (by rw [size_bs, HL.out]; exact size_blk) (by rw [H0.out, size_bs, HL.out]) (one_bs _) ?_))
      exact bodyPost_ret (v := .tuple #[.agg (bs D), .int .i64 0]) (results_cell_tmp Try.results16 _ _ w.heap.size 37 (bs D) (0, 0) _ rfl (rz2.setRow _) Try.underlying37 rfl (by rw [size_bs, HL.out]; exact size_blk)) rfl ⟨rfl, below_setRow hb12 (Nat.le_refl _) _⟩
  · have hh' : M.has i = false := by simpa using hh
    have e0 : ReadPost w M i (.int .i64 1) (.int .i64 20) = fun e w' => e = .returned (.tuple #[.agg (bs (blk 0#8)), .int .i64 1]) ∧ Below w.heap.size w w' := by
      funext e w'; unfold ReadPost; rw [hh']; rfl
    rw [e0]
    rw [hh'] at C1
    clear h hh e0 hh' k3
    go_enter Try.func16, Try.ntmps16
    go_wp2_with fail
    refine C1.mono ?_
    rintro e w1 ⟨rfl, rfl⟩
    clear C1
    go_wp2_with (first | (refine wpList_store_row rfl 37 _ _ rfl w.heap.size (bs (blk 0#8)) rfl rfl 37 _ rz (by rw [H0.out]; exact size_blk) rfl (one_bs _) ?_))
    exact bodyPost_ret (v := .tuple #[.agg (bs (blk 0#8)), .int .i64 1]) (results_cell_tmp Try.results16 _ _ w.heap.size 37 (bs (blk 0#8)) (0, 0) _ rfl (rz.setRow _) Try.underlying37 rfl (by rw [H0.out]; exact size_blk)) rfl ⟨rfl, below_setRow hb1 (Nat.le_refl _) _⟩
end Go.Proofs.Yteehpdeeaebliaa
