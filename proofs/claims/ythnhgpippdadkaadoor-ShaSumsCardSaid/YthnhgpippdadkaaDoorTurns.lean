import Derived.Test.YthnhgpippdadkaaDoorRefTurn
import Derived.Test.YthnhgpippdadkaaDoorRefPad
import Derived.Test.YthnhgpippdadkaaDoorMod
namespace Go.Proofs.YthnhgpippdadkaaDoor
open Go Go.RowKit
theorem ref_h0 (w : World) : Calls Tryd.prog 18 #[] w fun e w' => e = .returned (.agg (ws h0)) ∧ Below w.heap.size w w' := ref_start w
def TT (w : World) (h : List (BitVec 32)) (l : List (BitVec 8)) (W : World) : Prop := Row W w.heap.size 33 (ws h) ∧ Row W (w.heap.size + 1) 34 (bs l) ∧ Tab W ∧ Below w.heap.size w W
theorem TT.call {w W W' : World} {h : List (BitVec 32)} {l : List (BitVec 8)} (t : TT w h l W) (hb : Below W.heap.size W W') : TT w h l W' :=
  ⟨t.1.call hb, t.2.1.call hb, t.2.2.1.below hb t.2.2.1.pos, t.2.2.2.trans (hb.mono t.2.2.2.size)⟩
theorem TT.drew {w W : World} {h : List (BitVec 32)} {l : List (BitVec 8)} (t : TT w h l W) : TT w h l W.drew := ⟨t.1, t.2.1, t.2.2.1, t.2.2.2.drew⟩
theorem TT.rh {w W : World} {h : List (BitVec 32)} {l : List (BitVec 8)} (t : TT w h l W) : W.rangeAt w.heap.size 0 (ws h).toList := fun j v hv => by rw [Nat.zero_add, t.1.cell]; simpa using hv
theorem TT.rl {w W : World} {h : List (BitVec 32)} {l : List (BitVec 8)} (t : TT w h l W) : W.rangeAt (w.heap.size + 1) 0 (bs l).toList := fun j v hv => by rw [Nat.zero_add, t.2.1.cell]; simpa using hv
theorem anyH_one {P : Program} {md : Region.Mode} {ops : Array Oper} {Q : Exit → Act → World → Prop} {S : World → Prop} {i : Nat} {o : Oper} {fuel : Nat} {listed : Array Bool} {a : Act} {w : World} (hr : Region.ready md ops listed = [i]) (ho : ops[i]? = some o)
    (h : ∀ K' : Act → World → Prop, (∀ a w, S w → wpAnyH P md ops Q S fuel (listed.setIfInBounds i true) a w → K' a w) → if Region.wanted o (yielded ops a.tmps) = true then Oper.wp P o a w K' Q else K' (a.put o.dst undef) w) : wpAnyH P md ops Q S (fuel + 1) listed a w :=
  wpAnyH_all hr (by simp) fun j hj => by
    obtain rfl : j = i := by simpa using hj
    exact wpOp_step ho (fun K hK => h K fun a w h1 h2 => hK a w ⟨h1, h2⟩)
set_option maxHeartbeats 1600000 in
theorem turns_any (h : List (BitVec 32)) (l : List (BitVec 8)) (n : Nat) (hh : h.length = 8) (hl : l.length = 64) (hn : n < 18446744073709551616) (w : World) (hT : Tab w) :
    Calls Tryd.prog 4 #[.agg (ws h), .agg (bs l), .int .u64 (n : Int)] w fun e w' => e = .returned (.bool true) ∧ Below w.heap.size w w' := by
  have H33 : Hid ((Tryd.prog.info? 33).map (·.size) = some (ws h).toList.length) := Lib.hid (by rw [len_ws, hh]; exact size_h)
  have H34 : Hid ((Tryd.prog.info? 34).map (·.size) = some (bs l).toList.length) := Lib.hid (by rw [len_bs, hl]; exact size_b)
  have q1 := eql_h (turn h l) (by rw [length_turn]; exact hh)
  have q2 := eql_h h0 rfl
  have HH := Lib.hid hh
  have HL := Lib.hid hl
  have HT := Lib.hid hT
  clear hh hl hT
  go_enter Tryd.func4, Tryd.ntmps4
  go_wp2_with fail
  have hb0 : Below w.heap.size w ((w.alloc (.cells (ws h) 33)).alloc (.cells (bs l) 34)) := ((Below.refl _ _).alloc (Nat.le_refl _) _).alloc (by simp) _
  have T0 : TT w h l ((w.alloc (.cells (ws h) 33)).alloc (.cells (bs l) 34)) := ⟨(Row.fresh _ _ _).alloc _, row2b _ _ _ _, HT.out.below hb0 HT.out.pos, hb0⟩
  clear hb0
  generalize (w.alloc (.cells (ws h) 33)).alloc (.cells (bs l) 34) = w2 at *
  have S0 := T0.drew
  clear T0
  refine wp_region_held (S := TT w h l) (by kernel_rfl) ?_
  change wpAnyH _ _ _ _ _ _ _ _ w2.drew
  generalize w2.drew = w0 at *
  refine wpAnyH_take (i := 0) (oi := { dst := some 7, op := _, type := _, pos := _, after := _, guard := none }) (v := .agg (ws h)) rfl (by kernel_rfl) (by kernel_rfl) (by kernel_rfl) (fun _ _ _ h => h) (by rw [show (Value.agg (ws h)) = .agg (ws h).toList.toArray by simp]; exact yieldsIf_load_mid rfl 33 _ rfl (w.heap.size) 0 rfl (ws h).toList _ (fun W hW => TT.rh hW) Tryd.underlying33 rfl H33.out) S0 ?_
  simp only [Act.put, List.setIfInBounds_toArray, List.set_cons_succ, List.set_cons_zero]
  refine wpAnyH_take (i := 1) (oi := { dst := some 8, op := _, type := _, pos := _, after := _, guard := none }) (v := .agg (bs l)) rfl (by kernel_rfl) (by kernel_rfl) (by kernel_rfl) (fun _ _ _ h => h) (by rw [show (Value.agg (bs l)) = .agg (bs l).toList.toArray by simp]; exact yieldsIf_load_mid rfl 34 _ rfl (w.heap.size + 1) 0 rfl (bs l).toList _ (fun W hW => TT.rl hW) Tryd.underlying34 rfl H34.out) S0 ?_
  simp only [Act.put, List.setIfInBounds_toArray, List.set_cons_succ, List.set_cons_zero]
  refine wpAnyH_take (i := 3) (oi := { dst := some 10, op := _, type := _, pos := _, after := _, guard := none }) (v := .agg (ws h)) rfl (by kernel_rfl) (by kernel_rfl) (by kernel_rfl) (fun _ _ _ h => h) (by rw [show (Value.agg (ws h)) = .agg (ws h).toList.toArray by simp]; exact yieldsIf_load_mid rfl 33 _ rfl (w.heap.size) 0 rfl (ws h).toList _ (fun W hW => TT.rh hW) Tryd.underlying33 rfl H33.out) S0 ?_
  simp only [Act.put, List.setIfInBounds_toArray, List.set_cons_succ, List.set_cons_zero]
  refine wpAnyH_take (i := 4) (oi := { dst := some 11, op := _, type := _, pos := _, after := _, guard := none }) (v := .agg (bs l)) rfl (by kernel_rfl) (by kernel_rfl) (by kernel_rfl) (fun _ _ _ h => h) (by rw [show (Value.agg (bs l)) = .agg (bs l).toList.toArray by simp]; exact yieldsIf_load_mid rfl 34 _ rfl (w.heap.size + 1) 0 rfl (bs l).toList _ (fun W hW => TT.rl hW) Tryd.underlying34 rfl H34.out) S0 ?_
  simp only [Act.put, List.setIfInBounds_toArray, List.set_cons_succ, List.set_cons_zero]
  refine anyH_one (i := 2) (o := { dst := some 9, op := _, type := _, pos := _, after := _, guard := none }) (by kernel_rfl) rfl (fun K hK => ?_)
  go_simp
  refine (turn_any h l HH.out HL.out w0 S0.2.2.1).mono ?_
  rintro e wA ⟨rfl, hbA⟩
  have SA := S0.call hbA
  refine hK _ _ SA ?_
  clear hK K
  refine anyH_one (i := 5) (o := { dst := some 12, op := _, type := _, pos := _, after := _, guard := none }) (by kernel_rfl) rfl (fun K hK => ?_)
  go_simp
  refine (ref_turn h l HH.out HL.out wA).mono ?_
  rintro e wB ⟨rfl, hbB⟩
  have SB := SA.call hbB
  refine hK _ _ SB ?_
  clear hK K
  refine anyH_one (i := 6) (o := { dst := some 13, op := _, type := _, pos := _, after := _, guard := none }) (by kernel_rfl) rfl (fun K hK => ?_)
  go_simp
  refine hK _ _ SB ?_
  clear hK K
  refine anyH_one (i := 7) (o := { dst := some 14, op := _, type := _, pos := _, after := _, guard := none }) (by kernel_rfl) rfl (fun K hK => ?_)
  go_simp
  refine hK _ _ SB ?_
  clear hK K
  refine wpAnyH_take (i := 8) (oi := { dst := some 15, op := _, type := _, pos := _, after := _, guard := some (7, true) }) (v := .int .u64 (n : Int)) rfl (by kernel_rfl) (by kernel_rfl) (by kernel_rfl) (fun _ _ _ h => h) (Or.inl ⟨by rfl, fun _ _ => by go_simp⟩) SB ?_
  simp only [Act.put, List.setIfInBounds_toArray, List.set_cons_succ, List.set_cons_zero]
  refine wpAnyH_take (i := 10) (oi := { dst := some 17, op := _, type := _, pos := _, after := _, guard := some (7, true) }) (v := .int .u64 (n : Int)) rfl (by kernel_rfl) (by kernel_rfl) (by kernel_rfl) (fun _ _ _ h => h) (Or.inl ⟨by rfl, fun _ _ => by go_simp⟩) SB ?_
  simp only [Act.put, List.setIfInBounds_toArray, List.set_cons_succ, List.set_cons_zero]
  refine anyH_one (i := 9) (o := { dst := some 16, op := _, type := _, pos := _, after := _, guard := some (7, true) }) (by kernel_rfl) rfl (fun K hK => ?_)
  go_simp
  refine (pad_any n hn wB).mono ?_
  rintro e wC ⟨rfl, rC, hbC⟩
  have SC := SB.call hbC
  have sC := row_slice rC (c := padSize n) (by rw [length_pad]; exact Nat.le_refl _)
  rw [length_pad] at sC
  refine hK _ _ SC ?_
  clear hK K
  refine anyH_one (i := 11) (o := { dst := some 18, op := _, type := _, pos := _, after := _, guard := some (7, true) }) (by kernel_rfl) rfl (fun K hK => ?_)
  go_simp
  refine (refpad_any n hn wC).mono ?_
  rintro e wD ⟨gD, capD, rfl, sD, hbD⟩
  have SD := SC.call hbD
  have sC2 := sC.below hbD (Nat.le_refl _)
  refine hK _ _ SD ?_
  clear hK K
  refine anyH_one (i := 12) (o := { dst := some 19, op := _, type := _, pos := _, after := _, guard := some (7, true) }) (by kernel_rfl) rfl (fun K hK => ?_)
  go_simp
  refine (keep_true _ _ (pad n) wD sC2 sD).mono ?_
  rintro e wE ⟨rfl, rfl⟩
  refine hK _ _ SD ?_
  clear hK K
  refine anyH_one (i := 13) (o := { dst := some 20, op := _, type := _, pos := _, after := _, guard := none }) (by kernel_rfl) rfl (fun K hK => ?_)
  go_simp
  refine hK _ _ SD ?_
  clear hK K
  refine anyH_one (i := 14) (o := { dst := some 21, op := _, type := _, pos := _, after := _, guard := none }) (by kernel_rfl) rfl (fun K hK => ?_)
  go_simp
  refine hK _ _ SD ?_
  clear hK K
  refine anyH_one (i := 15) (o := { dst := some 22, op := _, type := _, pos := _, after := _, guard := some (14, true) }) (by kernel_rfl) rfl (fun K hK => ?_)
  go_simp
  refine (start_h0 wD).mono ?_
  rintro e wF ⟨rfl, hbF⟩
  have SF := SD.call hbF
  refine hK _ _ SF ?_
  clear hK K
  refine anyH_one (i := 16) (o := { dst := some 23, op := _, type := _, pos := _, after := _, guard := some (14, true) }) (by kernel_rfl) rfl (fun K hK => ?_)
  go_simp
  refine (ref_h0 wF).mono ?_
  rintro e wG ⟨rfl, hbG⟩
  have SG := SF.call hbG
  refine hK _ _ SG ?_
  clear hK K
  refine anyH_one (i := 17) (o := { dst := some 24, op := _, type := _, pos := _, after := _, guard := some (14, true) }) (by kernel_rfl) rfl (fun K hK => ?_)
  go_simp
  refine hK _ _ SG ?_
  clear hK K
  refine anyH_one (i := 18) (o := { dst := some 25, op := _, type := _, pos := _, after := _, guard := none }) (by kernel_rfl) rfl (fun K hK => ?_)
  go_simp
  refine hK _ _ SG ?_
  clear hK K
  refine anyH_one (i := 19) (o := { dst := some 26, op := _, type := _, pos := _, after := _, guard := none }) (by kernel_rfl) rfl (fun K hK => ?_)
  go_simp
  refine hK _ _ SG ?_
  clear hK K
  refine anyH_one (i := 20) (o := { dst := some 27, op := _, type := _, pos := _, after := _, guard := some (19, true) }) (by kernel_rfl) rfl (fun K hK => ?_)
  go_simp
  refine (wakes_any wG SG.2.2.1).mono ?_
  rintro e wH ⟨rfl, hbH⟩
  have SH := SG.call hbH
  refine hK _ _ SH ?_
  clear hK K
  refine anyH_one (i := 21) (o := { dst := some 28, op := _, type := _, pos := _, after := _, guard := none }) (by kernel_rfl) rfl (fun K hK => ?_)
  go_simp
  refine hK _ _ SH ?_
  clear hK K
  refine anyH_one (i := 22) (o := { dst := some 6, op := _, type := _, pos := _, after := _, guard := none }) (by kernel_rfl) rfl (fun K hK => ?_)
  go_simp
  refine hK _ _ SH ?_
  clear hK K
  refine wpAnyH_done (by kernel_rfl) ?_ _
  go_wp2_with fail
  go_ret
  exact ⟨rfl, SH.2.2.2⟩
end Go.Proofs.YthnhgpippdadkaaDoor
