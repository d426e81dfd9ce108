import Derived.Test.YtnfceejmkcohnaaDoorAdd
import Derived.Test.YtnfceejmkcohnaaDoorPad
import Derived.Test.YtnfceejmkcohnaaDoorDig
namespace Go.Proofs.YtnfceejmkcohnaaDoor
open Go Go.RowKit
/- a slice value that reads as the bytes q -/
def Slice (w : World) (v : Value) (q : List (BitVec 8)) : Prop :=
  ∃ A c, v = .slice A q.length c ∧ q.length ≤ c ∧ (q ≠ [] → ∃ b o, A = some ⟨b, o, none⟩ ∧ b < w.heap.size ∧ ∀ j x, q[j]? = some x → w.cell? ⟨b, o + j, none⟩ = some (.int .u8 (bd x)))
/- a slice value that reads as these slices of bytes -/
def Parts (w : World) (v : Value) (ps : List (List (BitVec 8))) : Prop :=
  ∃ A c, v = .slice A ps.length c ∧ (ps ≠ [] → ∃ b o, A = some ⟨b, o, none⟩ ∧ b < w.heap.size ∧ ∀ k q, ps[k]? = some q → ∃ u, w.cell? ⟨b, o + k, none⟩ = some u ∧ Slice w u q)
theorem Slice.below {w w' : World} {B : Nat} {v : Value} {q : List (BitVec 8)} (h : Slice w v q) (hb : Below B w w') (hB : w.heap.size ≤ B) : Slice w' v q := by
  obtain ⟨A, c, h1, h2, h3⟩ := h
  refine ⟨A, c, h1, h2, fun hne => ?_⟩
  obtain ⟨b, o, h4, h5, h6⟩ := h3 hne
  exact ⟨b, o, h4, Nat.lt_of_lt_of_le h5 hb.size, fun j x hx => (hb.cell (p := ⟨b, o + j, none⟩) (Nat.lt_of_lt_of_le h5 hB)).trans (h6 j x hx)⟩
theorem Slice.part {w w' : World} {g : Nat} {v : Value} {q : List (BitVec 8)} (h : Slice w v q) (hb : Below w.heap.size w w') (hg : w.heap.size ≤ g) : Part w' g v q := by
  obtain ⟨A, c, h1, h2, h3⟩ := h
  refine ⟨A, c, h1, h2, fun hne => ?_⟩
  obtain ⟨b, o, h4, h5, h6⟩ := h3 hne
  exact ⟨b, o, h4, by omega, Nat.lt_of_lt_of_le h5 hb.size, fun j x hx => (hb.cell (p := ⟨b, o + j, none⟩) h5).trans (h6 j x hx)⟩
theorem size_m : (Tryd.prog.info? 51).map (·.size) = some 73 := by kernel_rfl
theorem built_m : Tryd.prog.built 51 [(0, .agg (ws h0))] = some (mcells h0 (zer 64) 0) := by kernel_rfl
theorem zero_m (w : World) : (zeroValue 51).run Tryd.prog w = .ok (.agg (mcells (zeros 8) (zer 64) 0)) w := by kernel_rfl
theorem start_h0 (w : World) : Calls Tryd.prog 20 #[] w fun e w' => e = .returned (.agg (ws h0)) ∧ Below w.heap.size w w' := start_any w
def SumR (w wr : World) (g k : Nat) (ps : List (List (BitVec 8))) : Prop :=
  MsgAt wr g (ps.take k).flatten ∧ Row wr w.heap.size 24 (bs (zer 32)) ∧ Below w.heap.size w wr ∧ g < wr.heap.size
theorem msg_zero (w : World) : MsgAt (w.alloc (.cells (mcells h0 (zer 64) 0) 51)) w.heap.size [] :=
  ⟨zer 64, ⟨rfl, rfl⟩, Row.fresh _ _ _⟩
theorem flat_succ (ps : List (List (BitVec 8))) (k : Nat) (hk : k < ps.length) : (ps.take (k + 1)).flatten = (ps.take k).flatten ++ ps[k] := by
  rw [List.take_succ_eq_append_getElem hk, List.flatten_append]; simp
theorem flat_le (ps : List (List (BitVec 8))) (k : Nat) (hk : k < ps.length) : ((ps.take k).flatten ++ ps[k]).length ≤ ps.flatten.length := by
  rw [← flat_succ ps k hk]
  have : ps.flatten = (ps.take (k + 1)).flatten ++ (ps.drop (k + 1)).flatten := by rw [← List.flatten_append, List.take_append_drop]
  rw [this, List.length_append]; omega
theorem MsgAt.call {w w' : World} {g : Nat} {M : List (BitVec 8)} (h : MsgAt w g M) (hb : Below w.heap.size w w') : MsgAt w' g M := by
  obtain ⟨b, h1, h2⟩ := h; exact ⟨b, h1, h2.call hb⟩
theorem sum_step {w wr w2 : World} {g k : Nat} {ps : List (List (BitVec 8))} (h : SumR w wr g k ps) (hk : k < ps.length) (hM : MsgAt w2 g ((ps.take k).flatten ++ ps[k])) (hO : wr.grownBy w2 (some g)) (hg : w.heap.size < g) : SumR w w2 g (k + 1) ps := by
  obtain ⟨_, h2, h3, h4⟩ := h
  refine ⟨by rw [flat_succ ps k hk]; exact hM, h2.only hO (by omega), h3.trans (only_below hO (by omega) h3.size), Nat.lt_of_lt_of_le h4 hO.size⟩
theorem pad_part {wr w2 : World} {g n : Nat} (rp : Row w2 wr.heap.size 5 (bs (pad n))) (hg : g < wr.heap.size) : Part w2 g (.slice (some ⟨wr.heap.size, 0, none⟩) (padSize n) (padSize n)) (pad n) := by
  refine ⟨some ⟨wr.heap.size, 0, none⟩, padSize n, by rw [length_pad], by rw [length_pad]; exact Nat.le_refl _, fun _ => ⟨wr.heap.size, 0, rfl, by omega, rp.lt, fun j x hx => ?_⟩⟩
  have hj := (List.getElem?_eq_some_iff.1 hx).1
  rw [Nat.zero_add, rp.get (get_bs (pad n) j hj), List.getD_eq_getElem?_getD, hx]; rfl
set_option maxHeartbeats 800000 in
theorem sum_core (ps : List (List (BitVec 8))) (M : List (BitVec 8)) (hF : ps.flatten = M) (v : Value) (w : World) (hT : Tab w) (hv : Parts w v ps) (hn : ps.length < 2147483648) (hlen : M.length < 2147483648) :
    Calls Tryd.prog 17 #[v] w fun e w' => e = .returned (.agg (bs (sha M))) ∧ Below w.heap.size w w' := by
  obtain ⟨A, c, rfl, hp⟩ := hv
  have HT := Lib.hid hT
  have HF := Lib.hid hF
  have HP := Lib.hid hp
  clear hT hp hF
  have hz := zero_m
  have hbu := built_m
  go_enter Tryd.func17, Tryd.ntmps17
  go_wp2_with fail
  refine (start_h0 _).mono ?_
  rintro e w1 ⟨rfl, hb1⟩
  have hb : Below w.heap.size w w1 := ((Below.refl _ _).alloc (Nat.le_refl _) _).trans (hb1.mono (by simp))
  have r0 : Row w1 w.heap.size 24 (bs (zer 32)) := (Row.fresh w 24 (bs (zer 32))).call hb1
  clear hb1
  go_wp2_with (first | (refine wpList_build rfl _ _ rfl (by kernel_rfl) ?_) | (refine wpList_store_row rfl 51 _ _ rfl w1.heap.size (mcells h0 (zer 64) 0) rfl rfl 51 _ (Row.fresh _ _ _) size_m (by kernel_rfl) (by kernel_rfl) ?_; rw [World.setRow_alloc_new]))
  clear hz hbu
  go_loopw [10] (fun i wr => ∃ k : Nat, k ≤ ps.length ∧ i = .int .i64 k ∧ SumR w wr w1.heap.size k ps) (fun i _ => ps.length - (intOf i).toNat)
  case atStart => exact ⟨0, by omega, rfl, msg_zero _, r0.alloc _, hb.alloc hb.size _, by simp⟩
  case round =>
    obtain ⟨k, hk, rfl, hR⟩ := hrel
    have HR := Lib.hid hR
    clear hR
    by_cases hlt : k < ps.length
    · obtain ⟨b, o, rfl, hbl, hc⟩ := HP.out (by intro h; subst h; simp at hlt)
      obtain ⟨u, hu, hs⟩ := hc k ps[k] (List.getElem?_eq_getElem hlt)
      have hu2 := (HR.out.2.2.1.cell (p := ⟨b, o + k, none⟩) hbl).trans hu
      have HS := Lib.hid hs
      clear hc hu hs
      go_wp2_with fail
      refine (add_any w1.heap.size (ps.take k).flatten ps[k] u wr (HT.out.below HR.out.2.2.1 HT.out.pos) (Nat.lt_of_lt_of_le HT.out.pos hb.size) (HS.out.part HR.out.2.2.1 hb.size) HR.out.1 (by have := flat_le ps k hlt; rw [HF.out] at this; omega)).mono ?_
      rintro e w2 ⟨rfl, hM, hO⟩
      have HR2 := Lib.hid (sum_step HR.out hlt hM hO r0.lt)
      clear hM hO HR
      go_wp2_with fail
      go_roundw
      case rel => exact ⟨k + 1, by omega, by go_num, HR2.out⟩
      case measure => simp [intOf]; omega
    · obtain rfl : k = ps.length := by omega
      obtain ⟨hM, hr, hbw, hgw⟩ := HR.out
      rw [List.take_length, HF.out] at hM
      have hgN := r0.lt
      clear HR hlt hk hb r0 HP HF
      obtain ⟨b, ⟨hb1, hb2⟩, hrow⟩ := hM
      have c72 := hrow.get (mcells_len _ b M.length (length_hashTo _) hb1)
      have HM : Hid (MsgAt wr w1.heap.size M) := Lib.hid ⟨b, ⟨hb1, hb2⟩, hrow⟩
      clear hb1 hb2 hrow
      go_wp2_with fail
      refine (pad_any M.length (by omega) wr).mono ?_
      rintro e w2 ⟨rfl, rp, hbp⟩
      go_wp2_with fail
      have hz := padSize_hi M.length
      refine (add_any w1.heap.size M (pad M.length) _ w2 (HT.out.below (hbw.trans (hbp.mono hbw.size)) HT.out.pos) (by omega) (pad_part rp hgw) (HM.out.call hbp) (by rw [List.length_append, length_pad]; omega)).mono ?_
      rintro e w3 ⟨rfl, hM3, hO3⟩
      have hr3 := (hr.call hbp).only hO3 (by omega)
      have hb3 : Below w.heap.size w w3 := (hbw.trans (hbp.mono hbw.size)).trans (only_below hO3 (by omega) (Nat.le_trans hbw.size hbp.size))
      obtain ⟨b3, ⟨hb31, _⟩, hrow3⟩ := hM3
      have HD : Hid ((Tryd.prog.info? 24).map (·.size) = some (bs (sha M)).size) := Lib.hid (by rw [size_bs, sha, length_dig, length_hashTo]; exact size_d)
      have HX : Hid (sha M = dig (hashTo (M ++ pad M.length))) := Lib.hid rfl
      have HH : Hid ((hashTo (M ++ pad M.length)).length = 8) := Lib.hid (length_hashTo _)
      clear c72 HM rp hr hbw hbp hO3 hb31
      generalize hashTo (M ++ pad M.length) = H at *
      go_wp2_with (refine wpList_load_mid rfl 46 _ rfl w1.heap.size 0 rfl (ws H).toList _ (range_h hrow3) Tryd.underlying46 rfl (by rw [len_ws, HH.out]; exact size_h) ?_)
      refine (dig_any H HH.out _).mono ?_
      rintro e w4 ⟨rfl, hb4⟩
      rw [← HX.out]
      have hr4 := hr3.call hb4
      have hb5 : Below w.heap.size w w4 := hb3.trans (hb4.mono hb3.size)
      clear hr3 hb3 hb4 hrow3
      go_wp2_with (refine wpList_store_row rfl 24 _ _ rfl w.heap.size (bs (sha M)) rfl rfl 24 _ hr4 HD.out (by rw [size_bs, size_bs, sha, length_dig, length_hashTo]; rfl) (one_bs _) ?_)
      exact bodyPost_ret (v := .agg (bs (sha M))) (results_cell_row Tryd.results17 _ _ w.heap.size 24 (bs (sha M)) (0, 0) _ rfl (hr4.setRow _) Tryd.underlying24 rfl HD.out) rfl ⟨rfl, below_setRow hb5 (Nat.le_refl _) _⟩
theorem sum_any (ps : List (List (BitVec 8))) (v : Value) (w : World) (hT : Tab w) (hv : Parts w v ps) (hn : ps.length < 2147483648) (hlen : ps.flatten.length < 2147483648) :
    Calls Tryd.prog 17 #[v] w fun e w' => e = .returned (.agg (bs (sha ps.flatten))) ∧ Below w.heap.size w w' := sum_core ps _ rfl v w hT hv hn hlen
end Go.Proofs.YtnfceejmkcohnaaDoor
