import Derived.Test.YthnhgpippdadkaaDoorRefSum
namespace Go.Proofs.YthnhgpippdadkaaDoor
open Go Go.RowKit
theorem mem_flat (ps : List (List (BitVec 8))) (q : List (BitVec 8)) (h : q ∈ ps) : q.length ≤ ps.flatten.length := by
  induction ps with
  | nil => cases h
  | cons p r ih =>
    rw [List.flatten_cons, List.length_append]
    rcases List.mem_cons.1 h with rfl | h
    · omega
    · have := ih h; omega
/- what stands while the copies are held against what was handed in -/
def SR (w wr : World) (g : Nat) (v2 : Value) (ps : List (List (BitVec 8))) (D : List (BitVec 8)) : Prop := Row wr g 27 (bs D) ∧ Parts wr v2 ps ∧ Below w.heap.size w wr
theorem SR.drew {w wr : World} {g : Nat} {v2 : Value} {ps : List (List (BitVec 8))} {D : List (BitVec 8)} (h : SR w wr g v2 ps D) : SR w wr.drew g v2 ps D := ⟨h.1, h.2.1, h.2.2.drew⟩
theorem SR.call {w wr w' : World} {g : Nat} {v2 : Value} {ps : List (List (BitVec 8))} {D : List (BitVec 8)} (h : SR w wr g v2 ps D) (hb : Below wr.heap.size wr w') (hp : Parts w' v2 ps) : SR w w' g v2 ps D :=
  ⟨h.1.call hb, hp, h.2.2.trans (hb.mono h.2.2.size)⟩
theorem SR.range {w wr : World} {g : Nat} {v2 : Value} {ps : List (List (BitVec 8))} {D : List (BitVec 8)} (h : SR w wr g v2 ps D) : wr.rangeAt g 0 (bs D).toList := fun j v hv => by rw [Nat.zero_add, h.1.cell]; simpa using hv
theorem Parts.below {w w' : World} {B : Nat} {v : Value} {ps : List (List (BitVec 8))} (h : Parts w v ps) (hb : Below B w w') (hB : w.heap.size ≤ B) : Parts w' v ps := by
  obtain ⟨A, c, h1, h3⟩ := h
  refine ⟨A, c, h1, fun hne => ?_⟩
  obtain ⟨b, o, h4, h5, h6⟩ := h3 hne
  refine ⟨b, o, h4, Nat.lt_of_lt_of_le h5 hb.size, fun k q hq => ?_⟩
  obtain ⟨u, h7, h8⟩ := h6 k q hq
  exact ⟨u, (hb.cell (p := ⟨b, o + k, none⟩) (Nat.lt_of_lt_of_le h5 hB)).trans h7, h8.below hb hB⟩
set_option maxHeartbeats 1600000 in
theorem sums_any (ps : List (List (BitVec 8))) (v : Value) (w : World) (hT : Tab w) (hv : Hand w v ps) (hn : ps.length ≤ maxLen) :
    Calls Tryd.prog 3 #[v] w fun e w' => e = .returned (.bool true) ∧ Below w.heap.size w w' := by
  have HT := Lib.hid hT
  have HV := Lib.hid hv
  have HN := Lib.hid hn
  obtain ⟨A, c, rfl, hp⟩ := hv
  have HP := Lib.hid hp
  clear hT hn hp
  go_enter Tryd.func3, Tryd.ntmps3
  go_wp2_with fail
  refine (fair_any ps _ w HV.out HN.out).mono ?_
  rintro e w1 ⟨b, rfl, hf, rfl⟩
  cases b with
  | false =>
    go_wp2_with fail
    refine (wakes_any w1 HT.out).mono ?_
    rintro e w2 ⟨rfl, hb⟩
    go_wp2_with fail
    go_ret
    exact ⟨rfl, hb⟩
  | true =>
    obtain ⟨hn, hM⟩ := hf rfl
    clear hf
    go_wp2_with fail
    refine (copy_any ps _ w1 HV.out hn (fun q hq => Nat.le_trans (mem_flat ps q hq) hM)).mono ?_
    rintro e w2 ⟨v2, rfl, hO⟩
    have hP2 := hO.parts
    have hb2 : Below w1.heap.size w1 w2 := by obtain ⟨_, _, h, _⟩ := hO; exact h
    obtain ⟨A2, c2, rfl⟩ : ∃ A2 c2, v2 = .slice A2 ps.length c2 := by obtain ⟨_, h, _⟩ := hO; exact own_form h
    clear hO
    go_wp2_with fail
    refine (sum_any ps _ w2 (HT.out.below hb2 HT.out.pos) hP2 (by omega) (by omega)).mono ?_
    rintro e w3 ⟨rfl, hb3⟩
    have hP3 := hP2.below hb3 (Nat.le_refl _)
    have hb03 : Below w1.heap.size w1 w3 := hb2.trans (hb3.mono hb2.size)
    have HD : Hid ((sha ps.flatten).length = 32) := Lib.hid (by rw [sha, length_dig, length_hashTo])
    have HRS : Hid (∀ W, Below w1.heap.size w1 W → Calls Tryd.prog 12 #[.slice A ps.length c] W fun e w' => e = .returned (.agg (bs (sha ps.flatten))) ∧ Below W.heap.size W w') := Lib.hid fun W hW => refsum_any ps _ W (HV.out.below hW (Nat.le_refl _)) hn hM
    clear hP2 hb2 hb3
    generalize sha ps.flatten = D at *
    go_wp2_with (first | (refine wpList_store_row rfl 27 _ _ rfl w3.heap.size (bs D) rfl rfl 27 _ (Row.fresh _ _ _) (by rw [size_bs, HD.out]; exact size_d) (by rw [size_bs, HD.out]; rfl) (one_bs _) ?_; rw [World.setRow_alloc_new]))
    go_loopw [5] (fun i wr => ∃ k : Nat, k ≤ ps.length ∧ i = .int .i64 k ∧ SR w1 wr w3.heap.size (.slice A2 ps.length c2) ps D) (fun i _ => ps.length - (intOf i).toNat)
    case atStart => exact ⟨0, by omega, rfl, Row.fresh _ _ _, hP3.below ((Below.refl w3.heap.size w3).alloc (Nat.le_refl _) _) (Nat.le_refl _), hb03.alloc hb03.size _⟩
    case round =>
      clear hP3 hb03
      obtain ⟨k, hk, rfl, hR⟩ := hrel
      have HR := Lib.hid hR
      by_cases hlt : k < ps.length
      · have hne : ps ≠ [] := by intro h; subst h; simp at hlt
        obtain ⟨b, o, rfl, hbl, hc⟩ := HP.out hne
        obtain ⟨_, _, e2, hp2⟩ := hR.2.1
        injection e2 with e2 _ e3
        subst e2 e3
        obtain ⟨b2, o2, rfl, hbl2, hc2⟩ := hp2 hne
        obtain ⟨u, hu, hI⟩ := hc k ps[k] (List.getElem?_eq_getElem hlt)
        obtain ⟨u2, hu2, hS2⟩ := hc2 k ps[k] (List.getElem?_eq_getElem hlt)
        have hu1 := (hR.2.2.cell (p := ⟨b, o + k, none⟩) hbl).trans hu
        have hS1 := hI.slice.below hR.2.2 (Nat.le_refl _)
        have k1 : (k : Int) < (ps.length : Int) := by omega
        have k2 : (0 : Int) ≤ (k : Int) := by omega
        have HS1 := Lib.hid hS1
        have HS2 := Lib.hid hS2
        clear hc hc2 hu hI hp2 hS1 hS2
        clear hR HP
        go_wp2_with fail
        go_region_held3 (fun W => W.cell? ⟨b, o + k, none⟩ = some u ∧ W.cell? ⟨b2, o2 + k, none⟩ = some u2) (first | exact ⟨hu1, hu2⟩ | go_keep)
          (first | (go_at_call 11; refine (keep_true _ _ ps[k] wr.drew HS2.out HS1.out).mono ?_; rintro e w5 ⟨rfl, rfl⟩))
        go_wp2_with fail
        exact ⟨⟨k + 1, by omega, by go_num, HR.out.drew⟩, by simp [intOf]; omega⟩
      · obtain rfl : k = ps.length := by omega
        have S0 := hR.drew
        have q1 := eql_dig D HD.out
        have H27 : Hid ((Tryd.prog.info? 27).map (·.size) = some (bs D).toList.length) := Lib.hid (by rw [len_bs, HD.out]; exact size_d)
        clear hR HR HP hlt hk
        go_wp2_with fail
        refine wp_region_held (S := fun W => SR w1 W w3.heap.size (.slice A2 ps.length c2) ps D) (by kernel_rfl) ?_
        change wpAnyH _ _ _ _ _ _ _ _ wr.drew
        generalize wr.drew = w0 at *
        refine wpAnyH_take (i := 0) (oi := { dst := some 30, op := _, type := _, pos := _, after := _, guard := none }) (v := .agg (bs D)) rfl (by kernel_rfl) (by kernel_rfl) (by kernel_rfl) (fun _ _ _ h => h) (by rw [show (Value.agg (bs D)) = .agg (bs D).toList.toArray by simp]; exact yieldsIf_load_mid rfl 27 _ rfl w3.heap.size 0 rfl (bs D).toList _ (fun W hW => SR.range hW) Tryd.underlying27 rfl H27.out) S0 ?_
        simp only [Act.put, List.setIfInBounds_toArray, List.set_cons_succ, List.set_cons_zero]
        refine wpAnyH_take (i := 1) (oi := { dst := some 31, op := _, type := _, pos := _, after := _, guard := none }) (v := .slice A ps.length c) rfl (by kernel_rfl) (by kernel_rfl) (by kernel_rfl) (fun _ _ _ h => h) (Or.inl ⟨by rfl, fun _ _ => by go_simp⟩) S0 ?_
        simp only [Act.put, List.setIfInBounds_toArray, List.set_cons_succ, List.set_cons_zero]
        refine anyH_one (i := 2) (o := { dst := some 32, op := _, type := _, pos := _, after := _, guard := none }) (by kernel_rfl) rfl (fun K hK => ?_)
        go_simp
        refine (HRS.out w0 S0.2.2).mono ?_
        rintro e wA ⟨rfl, hbA⟩
        have SA := S0.call hbA (S0.2.1.below hbA (Nat.le_refl _))
        refine hK _ _ SA ?_
        clear hK K
        refine anyH_one (i := 3) (o := { dst := some 33, op := _, type := _, pos := _, after := _, guard := none }) (by kernel_rfl) rfl (fun K hK => ?_)
        go_simp
        refine hK _ _ SA ?_
        clear hK K
        refine anyH_one (i := 4) (o := { dst := some 34, op := _, type := _, pos := _, after := _, guard := none }) (by kernel_rfl) rfl (fun K hK => ?_)
        go_simp
        refine hK _ _ SA ?_
        clear hK K
        refine anyH_one (i := 5) (o := { dst := some 35, op := _, type := _, pos := _, after := _, guard := some (4, true) }) (by kernel_rfl) rfl (fun K hK => ?_)
        go_simp
        refine (wakes_any wA (HT.out.below SA.2.2 HT.out.pos)).mono ?_
        rintro e wH ⟨rfl, hbH⟩
        have SH := SA.call hbH (SA.2.1.below hbH (Nat.le_refl _))
        refine hK _ _ SH ?_
        clear hK K
        refine anyH_one (i := 6) (o := { dst := some 36, op := _, type := _, pos := _, after := _, guard := none }) (by kernel_rfl) rfl (fun K hK => ?_)
        go_simp
        refine hK _ _ SH ?_
        clear hK K
        refine anyH_one (i := 7) (o := { dst := some 2, op := _, type := _, pos := _, after := _, guard := none }) (by kernel_rfl) rfl (fun K hK => ?_)
        go_simp
        refine hK _ _ SH ?_
        clear hK K
        refine wpAnyH_done (by kernel_rfl) ?_ _
        go_wp2_with fail
        go_ret
        exact ⟨rfl, SH.2.2⟩
end Go.Proofs.YthnhgpippdadkaaDoor
