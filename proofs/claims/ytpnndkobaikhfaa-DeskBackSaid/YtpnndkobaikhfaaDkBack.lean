/- The statement DeskBack: its walk. -/
import Derived.Test.YtpnndkobaikhfaaDeskOpen
import Derived.Test.YtpnndkobaikhfaaPhA
set_option maxRecDepth 4000
namespace Go.Proofs.Ytpnndkobaikhfaa
open Go Go.RowKit
theorem wd_two (x : BitVec 32) : IntKind.u32.wrap (wd x + 2) = wd (x + 2#32) := by
  rw [IntKind.wrap_u32']; unfold wd; rw [BitVec.toNat_add]; simp
theorem may_sync (p o j : Int) (ep : BitVec 32) (fo : Bool) (hp : p = 0 ∨ p = 1) (ho : 1 - p = o) : mayD ⟨p, ep, true⟩ j true fo = if j = o then 0 else 1 := by
  subst ho
  show (if (j ≠ 0 ∧ j ≠ 1) ∨ j = p then (1 : Int) else if true = false then 20 else if true = false ∧ fo = false then 22 else 0) = _
  by_cases h : j = 1 - p
  · rw [if_pos h, if_neg (by rintro (⟨h1, h2⟩ | h1) <;> omega)]; simp
  · rw [if_neg h, if_pos (by omega)]
set_option maxRecDepth 20000 in
set_option maxHeartbeats 3200000 in
theorem dkback_walk (n' e' : Int) (w : World) (hn' : (Lit.int .u8 n').wf = true) (he' : (Lit.int .u32 e').wf = true) :
    Calls Try.prog 5 #[.int .u8 n', .int .u32 e'] w fun x w' => x = .returned (.bool true) ∧ Below w.heap.size w w' := by
  obtain ⟨n, rfl, hn⟩ := nat_u8 hn'
  obtain ⟨ep, rfl⟩ : ∃ ep : BitVec 32, e' = wd ep := ⟨_, wd_of e' (bounds_u32L he').1 (bounds_u32L he').2⟩
  clear hn' he'
  obtain ⟨p, hp⟩ : ∃ p : Int, ((n % 2 : Nat) : Int) = p := ⟨_, rfl⟩
  have hp01 : p = 0 ∨ p = 1 := by omega
  obtain ⟨o, ho⟩ : ∃ o : Int, 1 - p = o := ⟨_, rfl⟩
  have hm : (n : Int).tmod 2 = p := by rw [Int.tmod_eq_emod_of_nonneg (by omega)]; omega
  have hw : IntKind.i64.wrap p = p := i64_id _ (by omega) (by omega)
  have hw8 : IntKind.u8.wrap p = p := by rcases hp01 with rfl | rfl <;> rfl
  have hwo : IntKind.i64.wrap (1 - p) = o := by rw [ho]; exact i64_id _ (by omega) (by omega)
  have HOT : Hid (∀ w, Calls Try.prog 7 #[.agg (dskC ⟨p, ep, true⟩)] w fun x w' => x = .returned (.int .i64 o) ∧ Below w.heap.size w w') := Lib.hid (fun w => by
    have := other_any ⟨p, ep, true⟩ w
    rw [show otherD ⟨p, ep, true⟩ = o by unfold otherD; rcases hp01 with rfl | rfl <;> simp <;> omega] at this
    exact this)
  have HOE : Hid (∀ w, Calls Try.prog 7 #[.agg (dskC ⟨o, ep + 1#32, true⟩)] w fun x w' => x = .returned (.int .i64 p) ∧ Below w.heap.size w w') := Lib.hid (fun w => by
    have := other_any ⟨o, ep + 1#32, true⟩ w
    rw [show otherD ⟨o, ep + 1#32, true⟩ = p by unfold otherD; rcases hp01 with rfl | rfl <;> subst ho <;> simp] at this
    exact this)
  have HT1 : Hid (∀ w, Calls Try.prog 13 #[.agg (dskC ⟨p, ep, true⟩), .int .i64 o, .int .u16 0] w fun x w' => x = .returned (.agg (dskC ⟨o, ep + 1#32, true⟩)) ∧ Below w.heap.size w w') := Lib.hid (fun w => turn_dsk ⟨p, ep, true⟩ o 0#16 w)
  have HT2 : Hid (∀ w, Calls Try.prog 13 #[.agg (dskC ⟨o, ep + 1#32, true⟩), .int .i64 p, .int .u16 0] w fun x w' => x = .returned (.agg (dskC ⟨p, ep + 2#32, true⟩)) ∧ Below w.heap.size w w') := Lib.hid (fun w => by
    have := turn_dsk ⟨o, ep + 1#32, true⟩ p 0#16 w
    rw [show turnD ⟨o, ep + 1#32, true⟩ p 0#16 = ⟨p, ep + 2#32, true⟩ by unfold turnD; simp only [decide_true, Dsk.mk.injEq, true_and, and_true]; rw [BitVec.add_assoc]; rfl] at this
    exact this)
  have HT3 : Hid (∀ w, Calls Try.prog 13 #[.agg (dskC ⟨p, ep, true⟩), .int .i64 1, .int .u16 1] w fun x w' => x = .returned (.agg #[.int .i64 1, .int .u32 (wd (ep + 1#32)), .bool false]) ∧ Below w.heap.size w w') := Lib.hid (fun w => turn_dsk ⟨p, ep, true⟩ 1 1#16 w)
  have HMY : Hid (∀ (j : Int) (fo : Bool) w, Calls Try.prog 9 #[.agg (dskC ⟨p, ep, true⟩), .int .i64 j, .bool true, .bool fo] w fun x w' => x = .returned (.int .i64 (if j = o then 0 else 1)) ∧ Below w.heap.size w w') := Lib.hid (fun j fo w => by
    have := may_any ⟨p, ep, true⟩ j true fo w
    rw [may_sync p o j ep fo hp01 ho] at this
    exact this)
  have hw2 := wd_two ep
  have q : ∀ w, (Op.equalIn 10000 24 (.agg (dskC ⟨p, ep + 2#32, true⟩)) (.agg #[.int .i64 p, .int .u32 (wd (ep + 2#32)), .bool true])).run Try.prog w = .ok true w := fun w => (eql_dsk ⟨p, ep + 2#32, true⟩ ⟨p, ep + 2#32, true⟩ w).trans (by rw [decide_eq_true rfl])
  have HQ := Lib.hid q
  have HWO := Lib.hid hwo
  have HW2 := Lib.hid hw2
  have HP := Lib.hid hp01
  have HO := Lib.hid ho
  clear q hp hwo hw2 hp01 ho
  have HS := St.nil w noF
  go_enter Try.func5, Try.ntmps5
  go_upto_region 2 with (first | ((with_reducible refine wpList_plain ?_ ?_); exact rfl; intro KK hKK; refine wp_st_alloc HS 24 (#[.int .i64 0, .int .u32 0, .bool false]) rfl (.agg (#[.int .i64 0, .int .u32 0, .bool false])) (by kernel_rfl) (rfl) (fun g5 W1 HSx => hKK _ _ ?_); clear hKK KK HS; have HS : St w noF [⟨g5, 24, #[.int .i64 0, .int .u32 0, .bool false]⟩] W1 := HSx; clear HSx) | ((with_reducible refine wpList_plain ?_ ?_); exact rfl; intro KK hKK; refine wp_st_store HS 0 0 24 (.tmp 5) (.tmp 14) rfl rfl rfl (.agg (dskC ⟨p, ep, true⟩)) rfl (by exact size_dsk) (Nat.le_refl 3) (by exact one_dsk ⟨p, ep, true⟩) (dskC ⟨p, ep, true⟩) (by exact spl_agg _ _ _ rfl rfl) (fun W2 HSx => hKK _ _ ?_); clear hKK KK HS; have HS : St w noF [⟨g5, 24, dskC ⟨p, ep, true⟩⟩] W2 := HSx; clear HSx))
  clear hm hw hw8
  have HLT : Hid (∀ b ∈ ([⟨g5, 24, dskC ⟨p, ep, true⟩⟩] : List Blk), b.g < W2.heap.size) := Lib.hid fun b hb => HS.lt hb
  obtain ⟨B0, hB0⟩ : ∃ B0, W2.heap.size = B0 := ⟨_, rfl⟩
  rw [hB0] at HLT
  have HB0 : Hid (w.heap.size ≤ B0) := Lib.hid (by rw [← hB0]; exact HS.below.size)
  have hF0 : Wl [(fun W => St w noF [⟨g5, 24, dskC ⟨p, ep, true⟩⟩] W ∧ B0 ≤ W.heap.size)] 0 (World.drew W2) := ⟨HS.drew, by rw [← hB0]; exact (Below.refl 0 _).drew.size⟩
  clear HS hB0
  refine wp_region_phas [is (.agg (dskC ⟨p, ep, true⟩)), is (.agg (dskC ⟨p, ep, true⟩)), is (.int .i64 o), is (.agg (dskC ⟨o, ep + 1#32, true⟩)), (fun v W => ∃ k, v = Value.pointer (some ⟨k, 0, none⟩) ∧ Row W k 24 (#[.int .i64 0, .int .u32 0, .bool false]) ∧ B0 ≤ k), (fun v W => ∃ k, v = Value.pointer (some ⟨k, 0, none⟩) ∧ Row W k 24 (dskC ⟨o, ep + 1#32, true⟩) ∧ B0 ≤ k)] [true, true, true, true, false, false] [(fun W => St w noF [⟨g5, 24, dskC ⟨p, ep, true⟩⟩] W ∧ B0 ≤ W.heap.size), (fun W => St w noF [⟨g5, 24, dskC ⟨p, ep, true⟩⟩] W ∧ B0 ≤ W.heap.size)] [false, false, false, false, false, true] [some 0, some 0, some 0, some 0, some 0, some 0] [none, none, none, none, none, some 4] [some 15, some 16, some 17, some 18, some 6, none] 6 1 (fun _ => true) rfl rfl (by kernel_rfl) (by kernel_rfl) (by kernel_rfl) (by kernel_rfl) (by kernel_rfl) ?_ ?_ ?_ ?_ ?_ ?_
  · repeat first | exact wok_nil | refine wok_cons (by first | exact fun _ _ h k => ⟨h.1.same k, Nat.le_trans h.2 k.size⟩) ?_
  · repeat first | exact vok_nil | refine vok_rig (by first | exact fun _ _ _ h => h) ?_ | refine vok_soft (by first | exact fun _ _ _ h _ => h | exact fun _ _ _ h k => ⟨h.choose, h.choose_spec.1, h.choose_spec.2.1.call k, h.choose_spec.2.2⟩) ?_
  · exact hF0
  · repeat first | exact all_end (by decide) | refine all_cons (by first | exact rfl | exact ⟨rfl, fun _ _ h => Or.inl h⟩ | exact ⟨rfl, fun _ _ h => Or.inr ⟨h, rfl⟩⟩) ?_
  · refine alla_old rfl (step_mild 0 rfl rfl rfl (fun a x W hout hin hP => ?_)) ?_
    · have e5 : a.tmps[5]? = some (.pointer (some ⟨g5, 0, none⟩)) := (hout 5 (by kernel_rfl)).trans rfl
      have hr := hP.1.row 0 rfl
      clear hin hout hP
      intro K Q hK
      exact wp_load_row 24 (.tmp 5) rfl g5 (eval_of_get e5) 24 (dskC ⟨p, ep, true⟩) (0, 0) _ hr Try.underlying24 rfl (by exact size_dsk) (hK _ _ ⟨Same.refl _, rfl⟩)
    refine alla_old rfl (step_mild 0 rfl rfl rfl (fun a x W hout hin hP => ?_)) ?_
    · have e5 : a.tmps[5]? = some (.pointer (some ⟨g5, 0, none⟩)) := (hout 5 (by kernel_rfl)).trans rfl
      have hr := hP.1.row 0 rfl
      clear hin hout hP
      intro K Q hK
      exact wp_load_row 24 (.tmp 5) rfl g5 (eval_of_get e5) 24 (dskC ⟨p, ep, true⟩) (0, 0) _ hr Try.underlying24 rfl (by exact size_dsk) (hK _ _ ⟨Same.refl _, rfl⟩)
    refine alla_old rfl (step_mild 0 rfl rfl rfl (fun a x W hout hin hP => ?_)) ?_
    · have e16 := hin.is 1 16 (by kernel_rfl) (by decide) (by kernel_rfl) (by kernel_rfl) _ rfl
      have C := HOT.out W
      clear hP
      clear hin hout
      intro K Q hK
      go_simp
      refine C.mono ?_
      rintro e W' ⟨rfl, hb⟩
      exact hK _ _ ⟨hb, rfl⟩
    refine alla_old rfl (step_mild 0 rfl rfl rfl (fun a x W hout hin hP => ?_)) ?_
    · have e15 := hin.is 0 15 (by kernel_rfl) (by decide) (by kernel_rfl) (by kernel_rfl) _ rfl
      have e17 := hin.is 2 17 (by kernel_rfl) (by decide) (by kernel_rfl) (by kernel_rfl) _ rfl
      have C := HT1.out W
      clear hP
      clear hin hout
      intro K Q hK
      go_simp
      refine C.mono ?_
      rintro e W' ⟨rfl, hb⟩
      exact hK _ _ ⟨hb, rfl⟩
    refine alla_old rfl (step_mild 0 rfl rfl rfl (fun a x W hout hin hP => ?_)) ?_
    · have hbse := hP.2
      clear hP hin hout
      intro K Q hK
      have hz : (Try.prog.info? 24).bind (·.zero) = some (.agg (#[.int .i64 0, .int .u32 0, .bool false])) := by kernel_rfl
      refine wp_new_row 24 (#[.int .i64 0, .int .u32 0, .bool false]) rfl hz ?_
      exact hK _ _ ⟨Same.alloc _ _, _, rfl, Row.fresh _ _ _, hbse⟩
    refine alla_wild 0 rfl rfl rfl (fun a x W hout hin hP => ?_) ?_
    · obtain ⟨hw4, hx4⟩ := hin 4 (by kernel_rfl) (by decide)
      have hw4 := hw4 (.inr ⟨rfl, by kernel_rfl⟩)
      have hx4 := hx4 6 (by kernel_rfl)
      have e18 := hin.is 3 18 (by kernel_rfl) (by decide) (by kernel_rfl) (by kernel_rfl) _ rfl
      obtain ⟨g9, hg9, r9, hb9⟩ := hw4
      rw [hg9] at hx4
      clear hin hout
      intro K Q hK
      refine wp_store_row 24 (.tmp 6) (.tmp 18) rfl g9 (dskC ⟨o, ep + 1#32, true⟩) (eval_of_get hx4) (eval_of_get e18) 24 (#[.int .i64 0, .int .u32 0, .bool false]) r9 (by exact size_dsk) rfl (by exact one_dsk _) ?_
      have hgr := grown_setRow W g9 (dskC ⟨o, ep + 1#32, true⟩)
      exact hK (x 4) _ ⟨⟨hP.1.far hgr (Nat.le_trans HB0.out hb9) (fun b hb => by have := HLT.out b hb; omega), Nat.le_trans hP.2 hgr.size⟩, ⟨g9, hg9, r9.setRow _, hb9⟩, al_one rfl rfl⟩
    exact all_end (by decide)
  · intro x W hP hV hal
    obtain ⟨g6, h8, r6, hb6⟩ := hV 5 (by decide) (.inr (by kernel_rfl))
    have h7 : x 4 = .pointer (some ⟨g6, 0, none⟩) := (hal 5 (by decide) 4 rfl).symm.trans h8
    have HSx := hP.1.join r6 (Nat.le_trans HB0.out hb6) (fun b hb => by have := HLT.out b hb; omega)
    have HS : St w noF [⟨g5, 24, dskC ⟨p, ep, true⟩⟩, ⟨g6, 24, dskC ⟨o, ep + 1#32, true⟩⟩] W := HSx
    clear hV hP hal h8 r6 hb6 HSx HLT HB0
    simp only [putL, Act.put, List.setIfInBounds_toArray, List.set_cons_succ, List.set_cons_zero, h7]
    simp only [Nat.zero_add, Nat.reduceAdd]
    refine wpAnyH_done (by kernel_rfl) ?_ _
    clear h7
    go_upto_region 3 with fail
    have HLT : Hid (∀ b ∈ ([⟨g5, 24, dskC ⟨p, ep, true⟩⟩, ⟨g6, 24, dskC ⟨o, ep + 1#32, true⟩⟩] : List Blk), b.g < W.heap.size) := Lib.hid fun b hb => HS.lt hb
    obtain ⟨B0, hB0⟩ : ∃ B0, W.heap.size = B0 := ⟨_, rfl⟩
    rw [hB0] at HLT
    have HB0 : Hid (w.heap.size ≤ B0) := Lib.hid (by rw [← hB0]; exact HS.below.size)
    have hF0 : Wl [(fun W => St w noF [⟨g5,24,dskC ⟨p, ep, true⟩⟩,⟨g6,24,dskC ⟨o, ep + 1#32, true⟩⟩] W ∧ B0 ≤ W.heap.size)] 0 (World.drew W) := ⟨HS.drew, by rw [← hB0]; exact (Below.refl 0 _).drew.size⟩
    clear HS hB0
    refine wp_region_phas [is (.agg (dskC ⟨o, ep + 1#32, true⟩)), is (.agg (dskC ⟨o, ep + 1#32, true⟩)), is (.int .i64 p), is (.agg (dskC ⟨p, ep + 2#32, true⟩)), (fun v W => ∃ k, v = Value.pointer (some ⟨k, 0, none⟩) ∧ Row W k 24 (#[.int .i64 0, .int .u32 0, .bool false]) ∧ B0 ≤ k), (fun v W => ∃ k, v = Value.pointer (some ⟨k, 0, none⟩) ∧ Row W k 24 (dskC ⟨p, ep + 2#32, true⟩) ∧ B0 ≤ k)] [true, true, true, true, false, false] [(fun W => St w noF [⟨g5, 24, dskC ⟨p, ep, true⟩⟩, ⟨g6, 24, dskC ⟨o, ep + 1#32, true⟩⟩] W ∧ B0 ≤ W.heap.size), (fun W => St w noF [⟨g5, 24, dskC ⟨p, ep, true⟩⟩, ⟨g6, 24, dskC ⟨o, ep + 1#32, true⟩⟩] W ∧ B0 ≤ W.heap.size)] [false, false, false, false, false, true] [some 0, some 0, some 0, some 0, some 0, some 0] [none, none, none, none, none, some 4] [some 19, some 20, some 21, some 22, some 7, none] 6 1 (fun _ => true) rfl rfl (by kernel_rfl) (by kernel_rfl) (by kernel_rfl) (by kernel_rfl) (by kernel_rfl) ?_ ?_ ?_ ?_ ?_ ?_
    · repeat first | exact wok_nil | refine wok_cons (by first | exact fun _ _ h k => ⟨h.1.same k, Nat.le_trans h.2 k.size⟩) ?_
    · repeat first | exact vok_nil | refine vok_rig (by first | exact fun _ _ _ h => h) ?_ | refine vok_soft (by first | exact fun _ _ _ h _ => h | exact fun _ _ _ h k => ⟨h.choose, h.choose_spec.1, h.choose_spec.2.1.call k, h.choose_spec.2.2⟩) ?_
    · exact hF0
    · repeat first | exact all_end (by decide) | refine all_cons (by first | exact rfl | exact ⟨rfl, fun _ _ h => Or.inl h⟩ | exact ⟨rfl, fun _ _ h => Or.inr ⟨h, rfl⟩⟩) ?_
    · refine alla_old rfl (step_mild 0 rfl rfl rfl (fun a x W hout hin hP => ?_)) ?_
      · have e6 : a.tmps[6]? = some (.pointer (some ⟨g6, 0, none⟩)) := (hout 6 (by kernel_rfl)).trans rfl
        have hr := hP.1.row 1 rfl
        clear hin hout hP
        intro K Q hK
        exact wp_load_row 24 (.tmp 6) rfl g6 (eval_of_get e6) 24 (dskC ⟨o, ep + 1#32, true⟩) (0, 0) _ hr Try.underlying24 rfl (by exact size_dsk) (hK _ _ ⟨Same.refl _, rfl⟩)
      refine alla_old rfl (step_mild 0 rfl rfl rfl (fun a x W hout hin hP => ?_)) ?_
      · have e6 : a.tmps[6]? = some (.pointer (some ⟨g6, 0, none⟩)) := (hout 6 (by kernel_rfl)).trans rfl
        have hr := hP.1.row 1 rfl
        clear hin hout hP
        intro K Q hK
        exact wp_load_row 24 (.tmp 6) rfl g6 (eval_of_get e6) 24 (dskC ⟨o, ep + 1#32, true⟩) (0, 0) _ hr Try.underlying24 rfl (by exact size_dsk) (hK _ _ ⟨Same.refl _, rfl⟩)
      refine alla_old rfl (step_mild 0 rfl rfl rfl (fun a x W hout hin hP => ?_)) ?_
      · have e20 := hin.is 1 20 (by kernel_rfl) (by decide) (by kernel_rfl) (by kernel_rfl) _ rfl
        have C := HOE.out W
        clear hP
        clear hin hout
        intro K Q hK
        go_simp
        refine C.mono ?_
        rintro e W' ⟨rfl, hb⟩
        exact hK _ _ ⟨hb, rfl⟩
      refine alla_old rfl (step_mild 0 rfl rfl rfl (fun a x W hout hin hP => ?_)) ?_
      · have e19 := hin.is 0 19 (by kernel_rfl) (by decide) (by kernel_rfl) (by kernel_rfl) _ rfl
        have e21 := hin.is 2 21 (by kernel_rfl) (by decide) (by kernel_rfl) (by kernel_rfl) _ rfl
        have C := HT2.out W
        clear hP
        clear hin hout
        intro K Q hK
        go_simp
        refine C.mono ?_
        rintro e W' ⟨rfl, hb⟩
        exact hK _ _ ⟨hb, rfl⟩
      refine alla_old rfl (step_mild 0 rfl rfl rfl (fun a x W hout hin hP => ?_)) ?_
      · have hbse := hP.2
        clear hP hin hout
        intro K Q hK
        have hz : (Try.prog.info? 24).bind (·.zero) = some (.agg (#[.int .i64 0, .int .u32 0, .bool false])) := by kernel_rfl
        refine wp_new_row 24 (#[.int .i64 0, .int .u32 0, .bool false]) rfl hz ?_
        exact hK _ _ ⟨Same.alloc _ _, _, rfl, Row.fresh _ _ _, hbse⟩
      refine alla_wild 0 rfl rfl rfl (fun a x W hout hin hP => ?_) ?_
      · obtain ⟨hw4, hx4⟩ := hin 4 (by kernel_rfl) (by decide)
        have hw4 := hw4 (.inr ⟨rfl, by kernel_rfl⟩)
        have hx4 := hx4 7 (by kernel_rfl)
        have e22 := hin.is 3 22 (by kernel_rfl) (by decide) (by kernel_rfl) (by kernel_rfl) _ rfl
        obtain ⟨g9, hg9, r9, hb9⟩ := hw4
        rw [hg9] at hx4
        clear hin hout
        intro K Q hK
        refine wp_store_row 24 (.tmp 7) (.tmp 22) rfl g9 (dskC ⟨p, ep + 2#32, true⟩) (eval_of_get hx4) (eval_of_get e22) 24 (#[.int .i64 0, .int .u32 0, .bool false]) r9 (by exact size_dsk) rfl (by exact one_dsk _) ?_
        have hgr := grown_setRow W g9 (dskC ⟨p, ep + 2#32, true⟩)
        exact hK (x 4) _ ⟨⟨hP.1.far hgr (Nat.le_trans HB0.out hb9) (fun b hb => by have := HLT.out b hb; omega), Nat.le_trans hP.2 hgr.size⟩, ⟨g9, hg9, r9.setRow _, hb9⟩, al_one rfl rfl⟩
      exact all_end (by decide)
    · intro x W hP hV hal
      obtain ⟨g7, h8, r6, hb6⟩ := hV 5 (by decide) (.inr (by kernel_rfl))
      have h7 : x 4 = .pointer (some ⟨g7, 0, none⟩) := (hal 5 (by decide) 4 rfl).symm.trans h8
      have HSx := hP.1.join r6 (Nat.le_trans HB0.out hb6) (fun b hb => by have := HLT.out b hb; omega)
      have HS : St w noF [⟨g5, 24, dskC ⟨p, ep, true⟩⟩, ⟨g6, 24, dskC ⟨o, ep + 1#32, true⟩⟩, ⟨g7, 24, dskC ⟨p, ep + 2#32, true⟩⟩] W := HSx
      clear hV hP hal h8 r6 hb6 HSx HLT HB0
      simp only [putL, Act.put, List.setIfInBounds_toArray, List.set_cons_succ, List.set_cons_zero, h7]
      simp only [Nat.zero_add, Nat.reduceAdd]
      refine wpAnyH_done (by kernel_rfl) ?_ _
      clear h7
      obtain ⟨wl, hwl⟩ : ∃ wl, W = wl := ⟨_, rfl⟩
      subst hwl
      have HBl := Lib.hid HS.below
      have HR5 : Hid (Row W g5 24 (dskC ⟨p, ep, true⟩)) := Lib.hid (HS.row 0 rfl)
      have HR6 : Hid (Row W g6 24 (dskC ⟨o, ep + 1#32, true⟩)) := Lib.hid (HS.row 1 rfl)
      have HR7 : Hid (Row W g7 24 (dskC ⟨p, ep + 2#32, true⟩)) := Lib.hid (HS.row 2 rfl)
      clear HS
      go_wp2_with fail
      go_loopw [8] (fun i wr => ∃ k : Nat, k ≤ 6 ∧ i = .int .i64 ((k : Int) - 2) ∧ Below W.heap.size W wr) (fun i _ => 6 - (intOf i + 2).toNat)
      case atStart => exact ⟨0, by omega, rfl, Below.refl _ _⟩
      case round =>
        obtain ⟨k, hk, rfl, hBr⟩ := hrel
        have HBr := Lib.hid hBr
        clear hBr
        by_cases hlt : k < 6
        · have HR5r := Lib.hid (HR5.out.call HBr.out)
          obtain ⟨j, hj⟩ : ∃ j : Int, (k : Int) - 2 = j := ⟨_, rfl⟩
          have hj4 : j < 4 := by omega
          rw [hj]
          have hj1 : IntKind.i64.wrap (j + 1) = j + 1 := by rw [IntKind.wrap_i64]; omega
          have HJ := Lib.hid hj
          clear hj
          go_wp2_with ((with_reducible refine wpList_plain ?_ ?_); exact rfl; intro KK hKK; refine wp_load_row 24 (.tmp 5) rfl g5 rfl 24 (dskC ⟨p, ep, true⟩) (0, 0) _ HR5r.out Try.underlying24 rfl (by exact size_dsk) (hKK _ _ ?_); clear hKK KK)
          refine (HOT.out _).mono ?_
          rintro x w4 ⟨rfl, hb⟩
          have HBy := Lib.hid (HBr.out.trans (hb.mono HBr.out.size))
          clear HBr hb
          have HBr := HBy
          clear HBy
          have HR5s := Lib.hid (HR5.out.call HBr.out)
          by_cases hjo : j = o
          · have hb : (j == o) = true := beq_iff_eq.2 hjo
            have HM : Hid (∀ (fo : Bool) w, Calls Try.prog 9 #[.agg (dskC ⟨p, ep, true⟩), .int .i64 j, .bool true, .bool fo] w fun x w' => x = .returned (.int .i64 0) ∧ Below w.heap.size w w') := Lib.hid (fun fo w => by have := HMY.out j fo w; rw [if_pos hjo] at this; exact this)
            clear hjo
            go_wp2_with ((with_reducible refine wpList_plain ?_ ?_); exact rfl; intro KK hKK; refine wp_load_row 24 (.tmp 5) rfl g5 rfl 24 (dskC ⟨p, ep, true⟩) (0, 0) _ HR5s.out Try.underlying24 rfl (by exact size_dsk) (hKK _ _ ?_); clear hKK KK)
            refine (HM.out false _).mono ?_
            rintro x w5 ⟨rfl, hb⟩
            have HBy := Lib.hid (HBr.out.trans (hb.mono HBr.out.size))
            clear HBr hb
            have HBr := HBy
            clear HBy
            have HR5t := Lib.hid (HR5.out.call HBr.out)
            go_wp2_with (first | ((with_reducible refine wplG_row 24 5 g5 24 (dskC ⟨p, ep, true⟩) (0, 0) _ ?_ ?_ ?_ Try.underlying24 ?_ ?_ ?_); exact rfl; exact rfl; exact HR5t.out; exact rfl; exact size_dsk))
            refine (HM.out true _).mono ?_
            rintro x w6 ⟨rfl, hb⟩
            have HBy := Lib.hid (HBr.out.trans (hb.mono HBr.out.size))
            clear HBr hb
            have HBr := HBy
            clear HBy
            go_wp2_with fail
            exact ⟨⟨k + 1, by omega, by have := HJ.out; congr 1; omega, HBr.out⟩, by have := HJ.out; simp [intOf]; omega⟩
          · have hb : (j == o) = false := beq_eq_false_iff_ne.2 hjo
            have HM : Hid (∀ (fo : Bool) w, Calls Try.prog 9 #[.agg (dskC ⟨p, ep, true⟩), .int .i64 j, .bool true, .bool fo] w fun x w' => x = .returned (.int .i64 1) ∧ Below w.heap.size w w') := Lib.hid (fun fo w => by have := HMY.out j fo w; rw [if_neg hjo] at this; exact this)
            clear hjo
            go_wp2_with ((with_reducible refine wpList_plain ?_ ?_); exact rfl; intro KK hKK; refine wp_load_row 24 (.tmp 5) rfl g5 rfl 24 (dskC ⟨p, ep, true⟩) (0, 0) _ HR5s.out Try.underlying24 rfl (by exact size_dsk) (hKK _ _ ?_); clear hKK KK)
            refine (HM.out false _).mono ?_
            rintro x w5 ⟨rfl, hb⟩
            have HBy := Lib.hid (HBr.out.trans (hb.mono HBr.out.size))
            clear HBr hb
            have HBr := HBy
            clear HBy
            have HR5t := Lib.hid (HR5.out.call HBr.out)
            go_wp2_with (first | ((with_reducible refine wplG_row 24 5 g5 24 (dskC ⟨p, ep, true⟩) (0, 0) _ ?_ ?_ ?_ Try.underlying24 ?_ ?_ ?_); exact rfl; exact rfl; exact HR5t.out; exact rfl; exact size_dsk))
            refine (HM.out true _).mono ?_
            rintro x w6 ⟨rfl, hb⟩
            have HBy := Lib.hid (HBr.out.trans (hb.mono HBr.out.size))
            clear HBr hb
            have HBr := HBy
            clear HBy
            go_wp2_with fail
            exact ⟨⟨k + 1, by omega, by have := HJ.out; congr 1; omega, HBr.out⟩, by have := HJ.out; simp [intOf]; omega⟩
        · obtain rfl : k = 6 := by omega
          have HR5r := Lib.hid (HR5.out.call HBr.out)
          have HR6r := Lib.hid (HR6.out.call HBr.out)
          have HR7r := Lib.hid (HR7.out.call HBr.out)
          have c60 : wr.cell? ⟨g6, 0, none⟩ = some (.int .i64 o) := HR6r.out.get rfl
          have c62 : wr.cell? ⟨g6, 2, none⟩ = some (.bool true) := HR6r.out.get rfl
          have c50 : wr.cell? ⟨g5, 0, none⟩ = some (.int .i64 p) := HR5r.out.get rfl
          have hwo := HWO.out
          have hw2 := HW2.out
          have q := HQ.out
          go_wp2_with (first | ((with_reducible refine wplG_row 24 7 g7 24 (dskC ⟨p, ep + 2#32, true⟩) (0, 0) _ ?_ ?_ ?_ Try.underlying24 ?_ ?_ ?_); exact rfl; exact rfl; exact HR7r.out; exact rfl; exact size_dsk) | ((with_reducible refine wplG_row 24 5 g5 24 (dskC ⟨p, ep, true⟩) (0, 0) _ ?_ ?_ ?_ Try.underlying24 ?_ ?_ ?_); exact rfl; exact rfl; exact HR5r.out; exact rfl; exact size_dsk))
          clear c60 c62 c50 hwo hw2 q
          refine (HT3.out _).mono ?_
          rintro x w4 ⟨rfl, hb⟩
          have HBy := Lib.hid (HBr.out.trans (hb.mono HBr.out.size))
          clear HBr hb
          have HBr := HBy
          clear HBy
          have hfd : ∀ w : World, (Instr.field 24 (.agg #[.int .i64 1, .int .u32 (wd (ep + 1#32)), .bool false]) 2).run Try.prog w = .ok (.bool false) w := fun _ => by kernel_rfl
          go_wp2_with fail
          refine (dkwakes_any _).mono ?_
          rintro x w5 ⟨rfl, hb⟩
          have HBy := Lib.hid (HBr.out.trans (hb.mono HBr.out.size))
          clear HBr hb
          have HBr := HBy
          clear HBy
          go_wp2_with fail
          go_ret
          exact ⟨rfl, HBl.out.trans (HBr.out.mono HBl.out.size)⟩
end Go.Proofs.Ytpnndkobaikhfaa
