/- The statement DiskPlays: its walk. -/
import Derived.Test.YteehpdeeaebliaaDiskTwo
import Derived.Test.YteehpdeeaebliaaDiskSafe
namespace Go.Proofs.Yteehpdeeaebliaa
open Go Go.RowKit
theorem full3 {D : DiskOps} {base gx : Nat} {p q : Value} {cs : Array Value} {w W : World} {A1 A2 A3 B1 B2 B3 : DiskM} (hp : ∃ i, Wl [fun W => Full D base p q gx cs w W A1 B1, fun W => Full D base p q gx cs w W A2 B2, fun W => Full D base p q gx cs w W A3 B3] i W) : Row W gx 34 cs :=
  wl_any (S := fun W => Row W gx 34 cs) (by intro F hF W h; simp only [List.mem_cons, List.not_mem_nil, or_false] at hF; rcases hF with rfl | rfl | rfl <;> exact Full.row h) hp
theorem wRes_l (M : DiskM) (i : Int) (b : List (BitVec 8)) {k : Nat} (h : M.l.length ≤ k) : (M.wRes i b).2.l.length ≤ k + 1 := by
  unfold DiskM.wRes
  split
  · split
    · exact Nat.le_succ_of_le h
    · show (M.l ++ [_]).length ≤ k + 1; rw [List.length_append]; exact Nat.add_le_add h (Nat.le_refl 1)
  · exact Nat.le_succ_of_le h
theorem wRes_s (M : DiskM) (i : Int) (b : List (BitVec 8)) : (M.wRes i b).2.s = M.s := by
  unfold DiskM.wRes
  split
  · split <;> rfl
  · rfl
theorem rRes_len {M : DiskM} (h : M.Ok) (i : Int) : (M.rRes i).1.length = 32 := by
  unfold DiskM.rRes
  split
  · split
    · exact length_blk _
    · rename_i hh _
      unfold DiskM.has at hh
      simp only [Bool.and_eq_true, decide_eq_true_eq] at hh
      exact now_length h (by omega)
  · exact length_blk _
theorem Two.sec {D : DiskOps} {base gq : Nat} {p : Value} {w W : World} {M N : DiskM} {F G : Nat → Prop} (h : Two D base p (.pointer (some ⟨gq, 0, none⟩)) w W M N F G) : ∃ gs cs vl, RefD base W gq (.slice (some ⟨gs, 0, none⟩) N.s.length cs) vl N := by
  obtain ⟨g, vs, vl, e, h, _⟩ := h.ref
  injection e with e
  injection e with e
  injection e with e _ _
  subst e
  obtain ⟨gs, n, cs, rfl, hnn⟩ : ∃ gs n cs, vs = .slice (some ⟨gs, 0, none⟩) n cs ∧ N.s.length = n := by
    rcases h.sec.2 with ⟨_, h0⟩ | ⟨gs, cs, _, e, _⟩
    · have := h.ok.lo; omega
    · exact ⟨gs, _, cs, e, rfl⟩
  subst hnn
  exact ⟨gs, cs, vl, h⟩
set_option maxRecDepth 20000 in
set_option maxHeartbeats 3200000 in
theorem plays_walk (D : DiskOps) (n : Int) (A : Option Addr) (m c : Nat) (l : List StepD) (w : World) (wn : (Lit.int .i64 n).wf = true) (h : rdSl 4 rdStep w [.slice A m c] l) :
    Calls Try.prog 3 #[.int .i64 n, .slice A m c] w fun e w' => e = .returned (.bool true) ∧ Below w.heap.size w w' := by
  have hnb := bounds_i64' wn
  have H := Lib.hid h
  have HN : Hid (l.length = m) := Lib.hid (by obtain ⟨_, _, h1, _⟩ := h; injection h1 with h1 _; injection h1 with _ h1 _; exact h1.symm)
  clear h wn
  go_enter Try.func3, Try.ntmps3
  go_wp2_with fail
  refine (fairD_any w A m c l H.out).mono ?_
  rintro e w2 ⟨b, rfl, hb, rfl⟩
  cases b with
  | false =>
    clear hb
    go_wp2_with fail
    refine (dwakes_any D w).mono ?_
    rintro e w2 ⟨rfl, hb2⟩
    go_wp2_with fail
    go_ret
    exact ⟨rfl, hb2⟩
  | true =>
    have HF := Lib.hid (hb rfl)
    clear hb
    by_cases hn : 1 ≤ n ∧ n ≤ 1024
    · by_cases h60 : 60 < n
      · have hd1 : decide ((60 : Int) < n) = true := decide_eq_true h60
        have hd2 : decide (n ≤ (1024 : Int)) = true := decide_eq_true hn.2
        go_wp2_with fail
        refine (dwakes_any D w).mono ?_
        rintro e w2 ⟨rfl, hb2⟩
        go_wp2_with fail
        go_ret
        exact ⟨rfl, hb2⟩
      · have hd1 : decide ((60 : Int) < n) = false := decide_eq_false h60
        have C0 := D.new w.heap.size w n (Nat.le_refl _) hnb
        rw [makes_yes _ _ _ _ hn] at C0
        have HNN := Lib.hid hn
        clear hn
        go_wp2_with fail
        refine C0.mono ?_
        rintro e w1 ⟨g, F, rfl, hA, hb1, hF⟩
        have HA := Lib.hid hA
        have HB1 := Lib.hid hb1
        have C1 := ref_new w.heap.size w1 n hb1.size
        rw [makes_yes _ _ _ _ HNN.out] at C1
        clear C0 hA hb1 hF
        go_wp2_with fail
        refine C1.mono ?_
        rintro e w3 ⟨gq, G, rfl, hR, hb3, hG⟩
        have hlt1 := D.lt HA.out
        have R0 : Hid (Two D w.heap.size (.pointer (some ⟨g, 0, none⟩)) (.pointer (some ⟨gq, 0, none⟩)) w w3 (DiskM.new n.toNat) (DiskM.new n.toNat) F G) :=
          Lib.hid ⟨D.still HA.out hb3, hR, (fun k hk hg => by have := (hlt1 k hk).2; have := hG k hg; omega), HB1.out.trans (hb3.mono HB1.out.size), Nat.le_trans HB1.out.size hb3.size⟩
        clear C1 hR hb3 hG hlt1 HA HB1
        go_wp2_with fail
        go_loopw [9] (fun i wr => ∃ k : Nat, k ≤ m ∧ i = .int .i64 k ∧ ∃ M F G, Two D w.heap.size (.pointer (some ⟨g, 0, none⟩)) (.pointer (some ⟨gq, 0, none⟩)) w wr M M F G ∧ M.l.length ≤ k ∧ M.s.length = n.toNat) (fun i _ => m - (intOf i).toNat)
        case atStart => exact ⟨0, by omega, rfl, _, _, _, R0.out, Nat.le_refl _, by simp [DiskM.new]⟩
        case round =>
          obtain ⟨k, hk, rfl, M, F, G, hR, hl, hs⟩ := hrel
          have HR := Lib.hid hR
          have HL := Lib.hid hl
          have HSL := Lib.hid hs
          have H1 := Lib.hid (stays_steps w.heap.size w wr _ _ H.out hR.below (Nat.le_refl _))
          have HK200 := HF.out.1
          rw [HN.out] at HK200
          clear R0 hR hl hs
          by_cases hlt : k < m
          · obtain ⟨x, hx⟩ : ∃ x, l[k]? = some x := ⟨_, List.getElem?_eq_getElem (by rw [HN.out]; exact hlt)⟩
            have HX300 := Lib.hid (HF.out.2 x (List.mem_of_getElem? hx))
            obtain ⟨b, o, rfl, _, hs0⟩ := steps_at H.out hx
            obtain ⟨u, _, hI⟩ := hs0.keep
            obtain ⟨Ai, ci, rfl, hSl, hAi, hml⟩ := hI
            have hs := step_there H.out HR.out.below hx
            have HWI := Lib.hid hs.wi
            have c0 := hs.kind
            have c1 := hs.i
            have c2 := hs.v
            have c3 : wr.cell? ⟨b, o + k * 4 + 3, none⟩ = some (.slice Ai x.keep.length ci) := by
              have hu0 := hs0.keep
              have hlt := World.block_lt_of_cell? w _ hs0.i
              exact (HR.out.below.cell (p := ⟨b, o + k * 4 + 3, none⟩) hlt).trans (by assumption)
            obtain ⟨kl, hkl⟩ : ∃ kl, x.keep.length = kl := ⟨_, rfl⟩
            have HKL := Lib.hid hkl
            rw [hkl] at hSl c3
            have HSl := Lib.hid hSl
            have HAi := Lib.hid hAi
            have hk0 : (0 : Int) ≤ (k : Int) := by omega
            have hk1 : (k : Int) < (m : Int) := by omega
            clear hs hs0 hx H1 hSl hAi hml hkl
            have HFx : Hid (Full D w.heap.size (.pointer (some ⟨g, 0, none⟩)) (.pointer (some ⟨gq, 0, none⟩)) wr.heap.size #[.int .i64 x.kind, .int .i64 x.i, .int .u8 (bd x.v), .slice Ai kl ci] w (wr.alloc (.cells #[.int .i64 x.kind, .int .i64 x.i, .int .u8 (bd x.v), .slice Ai kl ci] 34)) M M) :=
              Lib.hid ⟨F, G, HR.out.still (Same.alloc _ _), Row.fresh _ _ _, (fun hf => by have := (D.lt HR.out.prog _ hf).2; omega), (fun hg => by have := (ref_lt HR.out.ref _ hg).2; omega)⟩
            have kx := HFx.out.row.get (i := 0) rfl
            obtain ⟨gx, hgx⟩ : ∃ gx, wr.heap.size = gx := ⟨_, rfl⟩
            have HGX := Lib.hid hgx
            obtain ⟨W9, hW9⟩ : ∃ W9, wr.alloc (.cells #[.int .i64 x.kind, .int .i64 x.i, .int .u8 (bd x.v), .slice Ai kl ci] 34) = W9 := ⟨_, rfl⟩
            have HW9 := Lib.hid hW9
            clear hgx hW9
            go_upto_block 2 with fail
            rw [HW9.out, HGX.out] at HFx
            rw [HW9.out, HGX.out]
            clear kx c0 c1 c2 c3 hk0 hk1
            go_cut [] (fun wx => ∃ M1, Full D w.heap.size (.pointer (some ⟨g, 0, none⟩)) (.pointer (some ⟨gq, 0, none⟩)) gx #[.int .i64 x.kind, .int .i64 x.i, .int .u8 (bd x.v), .slice Ai kl ci] w wx M1 M1 ∧ M1.l.length ≤ k + 1 ∧ M1.s.length = n.toNat)
            case first =>
              by_cases hk2 : x.kind = 2
              · have hd0 : (x.kind == 0) = false := beq_eq_false_iff_ne.2 (by omega)
                have hd1 : (x.kind == 1) = false := beq_eq_false_iff_ne.2 (by omega)
                have hd2 : (x.kind == 2) = true := by rw [hk2]; rfl
                obtain ⟨⟨rr, M1⟩, hw⟩ : ∃ z, M.fRes = z := ⟨_, rfl⟩
                have HLu : Hid (M1.l.length ≤ k + 1) := Lib.hid (by
                  have e : M1 = M.fRes.2 := by rw [hw]
                  rw [e]; unfold DiskM.fRes
                  have := HL.out
                  split
                  · exact Nat.le_succ_of_le this
                  · exact Nat.zero_le _)
                have HSu : Hid (M1.s.length = n.toNat) := Lib.hid (by
                  have e : M1 = M.fRes.2 := by rw [hw]
                  rw [e]; unfold DiskM.fRes
                  split
                  · exact HSL.out
                  · show (DiskM.put M.s M.l).length = _; rw [DiskM.length_put]; exact HSL.out)
                have C1 := HFx.out.flush (by have := HL.out; unfold few; omega)
                rw [hw] at C1
                have HWW := Lib.hid hw
                clear hk2 hw
                go_wp2_with fail
                refine C1.mono ?_
                rintro e W5 ⟨rfl, hF5⟩
                have C2 := hF5.rflush (by have := HL.out; unfold few; omega)
                rw [HWW.out] at C2
                clear C1 hF5
                go_wp2_with fail
                refine C2.mono ?_
                rintro e W6 ⟨rfl, hF6⟩
                have HFu := Lib.hid hF6
                clear C2 hF6 HFx HW9
                go_wp2_with fail
                go_meet
                exact ⟨M1, HFu.out, HLu.out, HSu.out⟩
              · by_cases hk9 : x.kind = 0 ∨ x.kind = 1 ∨ x.kind = 3 ∨ x.kind = 4
                · by_cases hk0' : x.kind = 0
                  · have hd0 : (x.kind == 0) = true := by rw [hk0']; rfl
                    obtain ⟨⟨rr, M1⟩, hw⟩ : ∃ z, M.wRes x.i (blk x.v) = z := ⟨_, rfl⟩
                    have HWW := Lib.hid hw
                    have HLu : Hid (M1.l.length ≤ k + 1) := Lib.hid (by have := wRes_l M x.i (blk x.v) HL.out; rw [hw] at this; exact this)
                    have HSu : Hid (M1.s.length = n.toNat) := Lib.hid (by have := wRes_s M x.i (blk x.v); rw [hw] at this; rw [this]; exact HSL.out)
                    clear hk2 hk9 hk0' hw
                    go_wp2_with fail
                    have hF0 : Wl [fun W => Full D w.heap.size (.pointer (some ⟨g, 0, none⟩)) (.pointer (some ⟨gq, 0, none⟩)) gx #[.int .i64 x.kind, .int .i64 x.i, .int .u8 (bd x.v), .slice Ai kl ci] w W M M, fun W => Full D w.heap.size (.pointer (some ⟨g, 0, none⟩)) (.pointer (some ⟨gq, 0, none⟩)) gx #[.int .i64 x.kind, .int .i64 x.i, .int .u8 (bd x.v), .slice Ai kl ci] w W M1 M, fun W => Full D w.heap.size (.pointer (some ⟨g, 0, none⟩)) (.pointer (some ⟨gq, 0, none⟩)) gx #[.int .i64 x.kind, .int .i64 x.i, .int .u8 (bd x.v), .slice Ai kl ci] w W M1 M1] 0 W9.drew := HFx.out.still (Below.refl _ _).drew
                    refine wp_region_phs [is (.pointer (some ⟨g, 0, none⟩)), is (.pointer (some ⟨gx, 1, none⟩)), is (.int .i64 x.i), is (.pointer (some ⟨gx, 2, none⟩)), is (.int .u8 (bd x.v)), is (.agg (bs (blk x.v))), is (.int .i64 rr), is (.pointer (some ⟨gq, 0, none⟩)), is (.pointer (some ⟨gx, 1, none⟩)), is (.int .i64 x.i), is (.pointer (some ⟨gx, 2, none⟩)), is (.int .u8 (bd x.v)), is (.agg (bs (blk x.v))), is (.int .i64 rr), is (.bool false)] [true, true, true, true, true, true, true, true, true, true, true, true, true, true, true] [(fun W => Full D w.heap.size (.pointer (some ⟨g, 0, none⟩)) (.pointer (some ⟨gq, 0, none⟩)) gx #[.int .i64 x.kind, .int .i64 x.i, .int .u8 (bd x.v), .slice Ai kl ci] w W M M), (fun W => Full D w.heap.size (.pointer (some ⟨g, 0, none⟩)) (.pointer (some ⟨gq, 0, none⟩)) gx #[.int .i64 x.kind, .int .i64 x.i, .int .u8 (bd x.v), .slice Ai kl ci] w W M1 M), (fun W => Full D w.heap.size (.pointer (some ⟨g, 0, none⟩)) (.pointer (some ⟨gq, 0, none⟩)) gx #[.int .i64 x.kind, .int .i64 x.i, .int .u8 (bd x.v), .slice Ai kl ci] w W M1 M1)] [false, false, false, false, false, false, true, false, false, false, false, false, false, true, false] [some 0, some 0, some 0, some 0, some 0, some 0, some 0, none, none, none, none, none, some 1, some 1, some 2] [some 68, some 69, some 70, some 71, some 72, some 73, some 74, some 75, some 76, some 77, some 78, some 79, some 80, some 81, some 82] 15 2 (fun _ => true) rfl rfl (by kernel_rfl) (by kernel_rfl) (by kernel_rfl) (by kernel_rfl) ?_ ?_ ?_ ?_ ?_ ?_
                    · repeat first | exact wok_nil | refine wok_cons (by first | exact fun _ _ h k => h.still k) ?_
                    · repeat first | exact vok_nil | refine vok_rig (by first | exact fun _ _ _ h => h) ?_ | refine vok_soft (by first | exact fun _ _ _ h _ => h) ?_
                    · exact hF0
                    · repeat first | exact all_end (by decide) | refine all_cons (by first | exact rfl | exact ⟨rfl, fun _ _ h => h⟩) ?_
                    · refine allp_mild 0 rfl rfl rfl (fun a x_ W hout hin hP => ?_) ?_
                      · have e5 : a.tmps[5]? = some (.pointer (some ⟨g, 0, none⟩)) := (hout 5 (by kernel_rfl)).trans rfl
                        exact does_move rfl e5 ⟨Same.refl _, rfl⟩
                      refine allp_mild 0 rfl rfl rfl (fun a x_ W hout hin hP => ?_) ?_
                      · have e10 : a.tmps[10]? = some (.pointer (some ⟨gx, 0, none⟩)) := (hout 10 (by kernel_rfl)).trans rfl
                        clear hin hout
                        intro K Q hK
                        go_simp
                        exact hK _ _ ⟨Same.refl _, rfl⟩
                      refine allp_mild 0 rfl rfl rfl (fun a x_ W hout hin hP => ?_) ?_
                      · have e69 := hin.is 1 69 (by kernel_rfl) (by decide) (by kernel_rfl) (by kernel_rfl) _ rfl
                        have hc := hP.row.get (i := 1) rfl
                        clear hP
                        clear hin hout
                        intro K0 Q hK
                        go_simp
                        exact hK _ _ ⟨Same.refl _, rfl⟩
                      refine allp_mild 0 rfl rfl rfl (fun a x_ W hout hin hP => ?_) ?_
                      · have e10 : a.tmps[10]? = some (.pointer (some ⟨gx, 0, none⟩)) := (hout 10 (by kernel_rfl)).trans rfl
                        clear hin hout
                        intro K Q hK
                        go_simp
                        exact hK _ _ ⟨Same.refl _, rfl⟩
                      refine allp_mild 0 rfl rfl rfl (fun a x_ W hout hin hP => ?_) ?_
                      · have e71 := hin.is 3 71 (by kernel_rfl) (by decide) (by kernel_rfl) (by kernel_rfl) _ rfl
                        have hc := hP.row.get (i := 2) rfl
                        clear hP
                        clear hin hout
                        intro K0 Q hK
                        go_simp
                        exact hK _ _ ⟨Same.refl _, rfl⟩
                      refine allp_mild 0 rfl rfl rfl (fun a x_ W hout hin hP => ?_) ?_
                      · have e72 := hin.is 4 72 (by kernel_rfl) (by decide) (by kernel_rfl) (by kernel_rfl) _ rfl
                        clear hP
                        clear hin hout
                        intro K0 Q hK
                        go_simp
                        refine (fill_any x.v W).mono ?_
                        rintro e W' ⟨rfl, hb⟩
                        exact hK _ _ ⟨hb, rfl⟩
                      refine allp_wild 0 rfl rfl rfl (fun a x_ W hout hin hP => ?_) ?_
                      · have e68 := hin.is 0 68 (by kernel_rfl) (by decide) (by kernel_rfl) (by kernel_rfl) _ rfl
                        have e70 := hin.is 2 70 (by kernel_rfl) (by decide) (by kernel_rfl) (by kernel_rfl) _ rfl
                        have e73 := hin.is 5 73 (by kernel_rfl) (by decide) (by kernel_rfl) (by kernel_rfl) _ rfl
                        have h0 := hP
                        clear hP
                        clear hin hout
                        intro K0 Q hK
                        go_simp
                        have C := h0.write x.i (blk x.v) (length_blk _) (by have := HL.out; unfold few; omega) HWI.out
                        rw [HWW.out] at C
                        refine C.mono ?_
                        rintro e W' ⟨rfl, hF⟩
                        exact hK _ _ ⟨hF, rfl⟩
                      refine allp_pure rfl rfl (fun a x_ W hout hin => ?_) ?_
                      · have e7 : a.tmps[7]? = some (.pointer (some ⟨gq, 0, none⟩)) := (hout 7 (by kernel_rfl)).trans rfl
                        exact does_move rfl e7 ⟨rfl, rfl⟩
                      refine allp_pure rfl rfl (fun a x_ W hout hin => ?_) ?_
                      · have e10 : a.tmps[10]? = some (.pointer (some ⟨gx, 0, none⟩)) := (hout 10 (by kernel_rfl)).trans rfl
                        clear hin hout
                        intro K Q hK
                        go_simp
                        exact hK _ _ ⟨rfl, rfl⟩
                      refine allp_any rfl rfl (fun a x_ W hout hin hP => ?_) ?_
                      · have e76 := hin.is 8 76 (by kernel_rfl) (by decide) (by kernel_rfl) (by kernel_rfl) _ rfl
                        have hc := (full3 hP).get (i := 1) rfl
                        clear hP
                        clear hin hout
                        intro K0 Q hK
                        go_simp
                        exact hK _ _ ⟨rfl, rfl⟩
                      refine allp_pure rfl rfl (fun a x_ W hout hin => ?_) ?_
                      · have e10 : a.tmps[10]? = some (.pointer (some ⟨gx, 0, none⟩)) := (hout 10 (by kernel_rfl)).trans rfl
                        clear hin hout
                        intro K Q hK
                        go_simp
                        exact hK _ _ ⟨rfl, rfl⟩
                      refine allp_any rfl rfl (fun a x_ W hout hin hP => ?_) ?_
                      · have e78 := hin.is 10 78 (by kernel_rfl) (by decide) (by kernel_rfl) (by kernel_rfl) _ rfl
                        have hc := (full3 hP).get (i := 2) rfl
                        clear hP
                        clear hin hout
                        intro K0 Q hK
                        go_simp
                        exact hK _ _ ⟨rfl, rfl⟩
                      refine allp_mild 1 rfl rfl rfl (fun a x_ W hout hin hP => ?_) ?_
                      · have e79 := hin.is 11 79 (by kernel_rfl) (by decide) (by kernel_rfl) (by kernel_rfl) _ rfl
                        clear hP
                        clear hin hout
                        intro K0 Q hK
                        go_simp
                        refine (fill_any x.v W).mono ?_
                        rintro e W' ⟨rfl, hb⟩
                        exact hK _ _ ⟨hb, rfl⟩
                      refine allp_wild 1 rfl rfl rfl (fun a x_ W hout hin hP => ?_) ?_
                      · have e75 := hin.is 7 75 (by kernel_rfl) (by decide) (by kernel_rfl) (by kernel_rfl) _ rfl
                        have e77 := hin.is 9 77 (by kernel_rfl) (by decide) (by kernel_rfl) (by kernel_rfl) _ rfl
                        have e80 := hin.is 12 80 (by kernel_rfl) (by decide) (by kernel_rfl) (by kernel_rfl) _ rfl
                        have h0 := hP
                        clear hP
                        clear hin hout
                        intro K0 Q hK
                        go_simp
                        have C := h0.rwrite x.i (blk x.v) (length_blk _) (by have := HL.out; unfold few; omega)
                        rw [HWW.out] at C
                        refine C.mono ?_
                        rintro e W' ⟨rfl, hF⟩
                        exact hK _ _ ⟨hF, rfl⟩
                      refine allp_mild 2 rfl rfl rfl (fun a x_ W hout hin hP => ?_) ?_
                      · have e74 := hin.is 6 74 (by kernel_rfl) (by decide) (by kernel_rfl) (by kernel_rfl) _ rfl
                        have e81 := hin.is 13 81 (by kernel_rfl) (by decide) (by kernel_rfl) (by kernel_rfl) _ rfl
                        clear hin hout
                        intro K Q hK
                        go_simp
                        exact hK _ _ ⟨Same.refl _, rfl⟩
                      exact all_end (by decide)
                    · intro x_ W hP hV
                      have h14 : x_ 14 = .bool false := hV 14 (by decide) (.inl (by kernel_rfl))
                      have HFu := Lib.hid hP
                      clear hV hP
                      simp only [putL, Act.put, List.setIfInBounds_toArray, List.set_cons_succ, List.set_cons_zero, h14]
                      refine wpAnyH_done (by kernel_rfl) ?_ _
                      clear h14
                      go_wp2_with fail
                      go_meet
                      exact ⟨M1, HFu.out, HLu.out, HSu.out⟩
                  · by_cases hk4 : x.kind = 4
                    · have hd0 : (x.kind == 0) = false := beq_eq_false_iff_ne.2 (by omega)
                      have hd1 : (x.kind == 1) = false := beq_eq_false_iff_ne.2 (by omega)
                      have hd2 : (x.kind == 2) = false := beq_eq_false_iff_ne.2 (by omega)
                      have hd3 : (x.kind == 3) = false := beq_eq_false_iff_ne.2 (by omega)
                      have hd4 : (x.kind == 4) = true := by rw [hk4]; rfl
                      have k1 := HFx.out.row.get (i := 1) rfl
                      have C1 := HFx.out.fuse x.i HWI.out
                      clear hk2 hk9 hk0' hk4
                      go_wp2_with fail
                      refine C1.mono ?_
                      rintro e W5 ⟨rfl, hF5⟩
                      have k5 := hF5.row.get (i := 1) rfl
                      obtain ⟨A5, c5, A6, c6, hr5⟩ := hF5.open
                      have cq := hr5.get (i := 2) rfl
                      have cf := hr5.free 2
                      have HFu := Lib.hid (hF5.rfuse x.i HWI.out)
                      obtain ⟨M1, hM1⟩ : ∃ M1, M.fused x.i = M1 := ⟨_, rfl⟩
                      have HLu : Hid (M1.l.length ≤ k + 1) := Lib.hid (by rw [← hM1]; exact Nat.le_succ_of_le HL.out)
                      have HSu : Hid (M1.s.length = n.toNat) := Lib.hid (by rw [← hM1]; exact HSL.out)
                      rw [hM1] at HFu
                      clear C1 hF5 hr5 k1 HFx HW9 hM1
                      go_wp2_with fail
                      go_meet
                      exact ⟨M1, HFu.out, HLu.out, HSu.out⟩
                    · by_cases hkr : x.kind = 1
                      · have hd0 : (x.kind == 0) = false := beq_eq_false_iff_ne.2 (by omega)
                        have hd1 : (x.kind == 1) = true := by rw [hkr]; rfl
                        obtain ⟨⟨B, rr⟩, hw⟩ : ∃ z, M.rRes x.i = z := ⟨_, rfl⟩
                        have HB : Hid (B.length = 32) := Lib.hid (by have := rRes_len (D.ok HR.out.prog) x.i; rw [hw] at this; exact this)
                        have HWW := Lib.hid hw
                        have k1 := HFx.out.row.get (i := 1) rfl
                        have C1 := HFx.out.read x.i (by have := HL.out; unfold few; omega) HWI.out
                        rw [hw] at C1
                        clear hk2 hk9 hk0' hk4 hkr hw
                        go_wp2_with fail
                        refine C1.mono ?_
                        rintro e W5 ⟨rfl, hF5⟩
                        have HF6 := Lib.hid (hF5.still (Same.alloc W5 (.cells (bs B) 37)))
                        have k6 := HF6.out.row.get (i := 1) rfl
                        obtain ⟨F5, G5, hT5, _⟩ := HF6.out
                        have C2 := ref_read _ _ _ _ _ x.i hT5.ref (by have := HL.out; unfold few; omega)
                        rw [HWW.out] at C2
                        have R5 := Lib.hid (Row.fresh W5 37 (bs B))
                        clear k1 C1 hF5 HFx HW9 hT5
                        go_wp2_with (first | (refine wpList_store_row rfl 37 _ _ rfl W5.heap.size (bs B) rfl rfl 37 _ (Row.fresh _ _ _) (by rw [size_bs, HB.out]; exact size_blk) (by rw [size_bs, HB.out]; rfl) (one_bs _) ?_; rw [World.setRow_alloc_new]))
                        refine C2.mono ?_
                        rintro e W7 ⟨rfl, hb7⟩
                        have HFu := Lib.hid (HF6.out.still (hb7.trans ((Same.alloc W7 (.cells (bs B) 37)).mono hb7.size)))
                        have R7 := Lib.hid ((R5.out.call hb7).call (Same.alloc W7 (.cells (bs B) 37)))
                        have R8 := Lib.hid (Row.fresh W7 37 (bs B))
                        have q := eql_blk B B HB.out HB.out (W7.alloc (.cells (bs B) 37))
                        rw [decide_eq_true rfl] at q
                        have rr7 := row_range R7.out (Below.refl _ _) R7.out.lt
                        have rr8 := row_range R8.out (Below.refl _ _) R8.out.lt
                        clear C2 k6 hb7 HF6
                        go_wp2_with (first | (refine wpList_store_row rfl 37 _ _ rfl W7.heap.size (bs B) rfl rfl 37 _ (Row.fresh _ _ _) (by rw [size_bs, HB.out]; exact size_blk) (by rw [size_bs, HB.out]; rfl) (one_bs _) ?_; rw [World.setRow_alloc_new]) | (refine wpList_load_mid rfl 37 _ rfl W5.heap.size 0 rfl (bs B).toList _ rr7 Try.underlying37 rfl (by rw [len_bs, HB.out]; exact size_blk) ?_) | (refine wpList_load_mid rfl 37 _ rfl W7.heap.size 0 rfl (bs B).toList _ rr8 Try.underlying37 rfl (by rw [len_bs, HB.out]; exact size_blk) ?_))
                        have HLu : Hid (M.l.length ≤ k + 1) := Lib.hid (Nat.le_succ_of_le HL.out)
                        have HSu := HSL
                        go_meet
                        exact ⟨M, HFu.out, HLu.out, HSu.out⟩
                      · have hd0 : (x.kind == 0) = false := beq_eq_false_iff_ne.2 (by omega)
                        have hd1 : (x.kind == 1) = false := beq_eq_false_iff_ne.2 (by omega)
                        have hd2 : (x.kind == 2) = false := beq_eq_false_iff_ne.2 (by omega)
                        have hd3 : (x.kind == 3) = true := beq_iff_eq.2 (by omega)
                        have HEo := Lib.hid (own_empty W9)
                        have HSx : Hid (Slice (W9.alloc (.cells #[] 5)) (.slice Ai kl ci) x.keep) := Lib.hid (Slice.below HSl.out (HFx.out.below.trans ((Same.alloc W9 _).mono HFx.out.bse)) (Nat.le_refl _))
                        have k3' : (W9.alloc (.cells #[] 5)).cell? ⟨gx, 3, none⟩ = some (.slice Ai kl ci) := (HFx.out.row.call (Same.alloc _ _)).get (i := 3) rfl
                        have hkl3 : kl ≤ 300 := by have := HX300.out; rw [HKL.out] at this; exact this
                        clear hk2 hk9 hk0' hk4 hkr
                        go_wp2_with (first | (at_builtin; refine wpList_append_slice rfl (.tmp 117) (.tmp 119) rfl W9.heap.size _ 0 [] rfl HEo.out Ai kl ci x.keep rfl HSx.out HAi.out (by omega) (by simp) ?_; intro kv w4 own1 hb4; simp only [Nat.zero_add, List.nil_append] at own1; have hb14 := Lib.hid hb4; rw [← HKL.out] at own1; have HO := Lib.hid own1; clear own1 hb4))
                        have C1 := HFx.out.upOwn ((Same.alloc W9 (.cells #[] 5)).trans hb14.out) (by have := HL.out; unfold few; omega) (own_slice HO.out) (by have := HX300.out; unfold few; omega) (fun k' hk' => (HO.out.lt k' hk').1)
                        refine C1.mono ?_
                        rintro e W5 ⟨rfl, hF5⟩
                        have k5 := hF5.row.get (i := 3) rfl
                        have C2 := hF5.rupArg (by have := HL.out; unfold few; omega) HSl.out (by rw [HKL.out]; unfold few; omega)
                        obtain ⟨M1, hM1⟩ : ∃ M1, M.upped x.keep = M1 := ⟨_, rfl⟩
                        have HLu : Hid (M1.l.length ≤ k + 1) := Lib.hid (by rw [← hM1]; exact Nat.zero_le _)
                        have HSu : Hid (M1.s.length = n.toNat) := Lib.hid (by rw [← hM1]; show (DiskM.put M.s _).length = _; rw [DiskM.length_put]; exact HSL.out)
                        rw [hM1] at C2
                        clear C1 hF5 k3' HFx HW9 HEo HSx HO hb14 hM1 hkl3
                        go_wp2_with fail
                        refine C2.mono ?_
                        rintro e W6 ⟨rfl, hF6⟩
                        have HFu := Lib.hid hF6
                        clear C2 hF6 k5
                        go_wp2_with fail
                        go_meet
                        exact ⟨M1, HFu.out, HLu.out, HSu.out⟩
                · have hd0 : (x.kind == 0) = false := beq_eq_false_iff_ne.2 (by omega)
                  have hd1 : (x.kind == 1) = false := beq_eq_false_iff_ne.2 (by omega)
                  have hd2 : (x.kind == 2) = false := beq_eq_false_iff_ne.2 (by omega)
                  have hd3 : (x.kind == 3) = false := beq_eq_false_iff_ne.2 (by omega)
                  have hd4 : (x.kind == 4) = false := beq_eq_false_iff_ne.2 (by omega)
                  have HLu : Hid (M.l.length ≤ k + 1) := Lib.hid (Nat.le_succ_of_le HL.out)
                  have HSu := HSL
                  clear hk2 hk9
                  go_wp2_with fail
                  go_meet
                  exact ⟨M, HFx.out, HLu.out, HSu.out⟩
            case rest =>
              obtain ⟨M1, hF1, hl1, hs1⟩ := hcut
              have HFu := Lib.hid hF1
              have HLu := Lib.hid hl1
              have HSu := Lib.hid hs1
              clear hF1 hl1 hs1 HFx HW9
              go_wp2_with fail
              obtain ⟨W9, rfl⟩ : ∃ W9, W9 = wc := ⟨_, rfl⟩
              have hF0 : Wl [fun W => Full D w.heap.size (.pointer (some ⟨g, 0, none⟩)) (.pointer (some ⟨gq, 0, none⟩)) gx #[.int .i64 x.kind, .int .i64 x.i, .int .u8 (bd x.v), .slice Ai kl ci] w W M1 M1] 0 W9.drew := HFu.out.still (Below.refl _ _).drew
              refine wp_region_phs [is (.pointer (some ⟨g, 0, none⟩)), is (.int .i64 (M1.l.length : Int)), is (.pointer (some ⟨gq, 0, none⟩)), is (.pointer (some ⟨gq, 0, none⟩)), is (.pointer (some ⟨gq, 1, none⟩)), (fun v _ => ∃ A c, v = Value.slice A M1.l.length c), is (.int .i64 (M1.l.length : Int)), is (.bool false), is (.bool false), is (.pointer (some ⟨g, 0, none⟩)), is (.bool M1.down), is (.pointer (some ⟨gq, 0, none⟩)), is (.pointer (some ⟨gq, 0, none⟩)), is (.pointer (some ⟨gq, 3, none⟩)), is (.bool M1.down), is (.bool false), is (.bool false), is (.bool false), is (.pointer (some ⟨g, 0, none⟩)), is (.int .i64 (M1.s.length : Int)), is (.pointer (some ⟨gq, 0, none⟩)), is (.pointer (some ⟨gq, 0, none⟩)), is (.pointer (some ⟨gq, 0, none⟩)), (fun v _ => ∃ A c, v = Value.slice A M1.s.length c), is (.int .i64 (M1.s.length : Int)), is (.bool false), is (.bool false)] [true, true, true, true, true, true, true, true, true, true, true, true, true, true, true, true, true, true, true, true, true, true, true, true, true, true, true] [(fun W => Full D w.heap.size (.pointer (some ⟨g, 0, none⟩)) (.pointer (some ⟨gq, 0, none⟩)) gx #[.int .i64 x.kind, .int .i64 x.i, .int .u8 (bd x.v), .slice Ai kl ci] w W M1 M1)] [false, false, false, false, false, false, false, false, false, false, false, false, false, false, false, false, false, false, false, false, false, false, false, false, false, false, false] [some 0, some 0, some 0, some 0, some 0, some 0, some 0, some 0, some 0, some 0, some 0, some 0, some 0, some 0, some 0, some 0, some 0, some 0, some 0, some 0, some 0, some 0, some 0, some 0, some 0, some 0, some 0] [some 137, some 138, some 139, some 140, some 141, some 142, some 143, some 144, some 145, some 146, some 147, some 148, some 149, some 150, some 151, some 152, some 153, some 154, some 155, some 156, some 157, some 158, some 159, some 160, some 161, some 162, some 163] 27 0 (fun _ => true) rfl rfl (by kernel_rfl) (by kernel_rfl) (by kernel_rfl) (by kernel_rfl) ?_ ?_ ?_ ?_ ?_ ?_
              · repeat first | exact wok_nil | refine wok_cons (by first | exact fun _ _ h k => h.still k) ?_
              · repeat first | exact vok_nil | refine vok_rig (by first | exact fun _ _ _ h => h | exact fun _ _ _ h => h) ?_ | refine vok_soft (by first | exact fun _ _ _ h _ => h) ?_
              · exact hF0
              · repeat first | exact all_end (by decide) | refine all_cons (by first | exact rfl | exact ⟨rfl, fun _ _ h => h⟩) ?_
              · refine allp_mild 0 rfl rfl rfl (fun a x_ W hout hin hP => ?_) ?_
                · have e5 : a.tmps[5]? = some (.pointer (some ⟨g, 0, none⟩)) := (hout 5 (by kernel_rfl)).trans rfl
                  exact does_move rfl e5 ⟨Same.refl _, rfl⟩
                refine allp_mild 0 rfl rfl rfl (fun a x_ W hout hin hP => ?_) ?_
                · have e137 := hin.is 0 137 (by kernel_rfl) (by decide) (by kernel_rfl) (by kernel_rfl) _ rfl
                  have h0 := hP
                  clear hP
                  clear hin hout
                  intro K0 Q hK
                  go_simp
                  refine (h0.loose (by have := HLu.out; unfold few; omega)).mono ?_
                  rintro e W' ⟨rfl, hb⟩
                  exact hK _ _ ⟨hb, rfl⟩
                refine allp_mild 0 rfl rfl rfl (fun a x_ W hout hin hP => ?_) ?_
                · have e7 : a.tmps[7]? = some (.pointer (some ⟨gq, 0, none⟩)) := (hout 7 (by kernel_rfl)).trans rfl
                  exact does_move rfl e7 ⟨Same.refl _, rfl⟩
                refine allp_mild 0 rfl rfl rfl (fun a x_ W hout hin hP => ?_) ?_
                · have e139 := hin.is 2 139 (by kernel_rfl) (by decide) (by kernel_rfl) (by kernel_rfl) _ rfl
                  clear hin hout
                  intro K Q hK
                  go_simp
                  exact hK _ _ ⟨Same.refl _, rfl⟩
                refine allp_mild 0 rfl rfl rfl (fun a x_ W hout hin hP => ?_) ?_
                · have e140 := hin.is 3 140 (by kernel_rfl) (by decide) (by kernel_rfl) (by kernel_rfl) _ rfl
                  clear hin hout
                  intro K Q hK
                  go_simp
                  exact hK _ _ ⟨Same.refl _, rfl⟩
                refine allp_mild 0 rfl rfl rfl (fun a x_ W hout hin hP => ?_) ?_
                · have e141 := hin.is 4 141 (by kernel_rfl) (by decide) (by kernel_rfl) (by kernel_rfl) _ rfl
                  obtain ⟨A5, c5, A6, c6, hr⟩ := hP.open
                  have hc := hr.get (i := 1) rfl
                  clear hP hr
                  clear hin hout
                  intro K0 Q hK
                  go_simp
                  exact hK _ _ ⟨Same.refl _, A6, c6, rfl⟩
                refine allp_mild 0 rfl rfl rfl (fun a x_ W hout hin hP => ?_) ?_
                · obtain ⟨v142, e142, hv142⟩ := hin.get 5 142 (by kernel_rfl) (by decide) (by kernel_rfl) (.inl (by kernel_rfl))
                  obtain ⟨A9, c9, rfl⟩ := hv142
                  clear hP
                  clear hin hout
                  intro K0 Q hK
                  go_simp
                  exact hK _ _ ⟨Same.refl _, rfl⟩
                refine allp_mild 0 rfl rfl rfl (fun a x_ W hout hin hP => ?_) ?_
                · have e138 := hin.is 1 138 (by kernel_rfl) (by decide) (by kernel_rfl) (by kernel_rfl) _ rfl
                  have e143 := hin.is 6 143 (by kernel_rfl) (by decide) (by kernel_rfl) (by kernel_rfl) _ rfl
                  clear hin hout
                  intro K Q hK
                  go_simp
                  exact hK _ _ ⟨Same.refl _, rfl⟩
                refine allp_mild 0 rfl rfl rfl (fun a x_ W hout hin hP => ?_) ?_
                · have e144 := hin.is 7 144 (by kernel_rfl) (by decide) (by kernel_rfl) (by kernel_rfl) _ rfl
                  exact does_move rfl e144 ⟨Same.refl _, rfl⟩
                refine allp_mild 0 rfl rfl rfl (fun a x_ W hout hin hP => ?_) ?_
                · have e5 : a.tmps[5]? = some (.pointer (some ⟨g, 0, none⟩)) := (hout 5 (by kernel_rfl)).trans rfl
                  exact does_move rfl e5 ⟨Same.refl _, rfl⟩
                refine allp_mild 0 rfl rfl rfl (fun a x_ W hout hin hP => ?_) ?_
                · have e146 := hin.is 9 146 (by kernel_rfl) (by decide) (by kernel_rfl) (by kernel_rfl) _ rfl
                  have h0 := hP
                  clear hP
                  clear hin hout
                  intro K0 Q hK
                  go_simp
                  refine (h0.down).mono ?_
                  rintro e W' ⟨rfl, hb⟩
                  exact hK _ _ ⟨hb, rfl⟩
                refine allp_mild 0 rfl rfl rfl (fun a x_ W hout hin hP => ?_) ?_
                · have e7 : a.tmps[7]? = some (.pointer (some ⟨gq, 0, none⟩)) := (hout 7 (by kernel_rfl)).trans rfl
                  exact does_move rfl e7 ⟨Same.refl _, rfl⟩
                refine allp_mild 0 rfl rfl rfl (fun a x_ W hout hin hP => ?_) ?_
                · have e148 := hin.is 11 148 (by kernel_rfl) (by decide) (by kernel_rfl) (by kernel_rfl) _ rfl
                  clear hin hout
                  intro K Q hK
                  go_simp
                  exact hK _ _ ⟨Same.refl _, rfl⟩
                refine allp_mild 0 rfl rfl rfl (fun a x_ W hout hin hP => ?_) ?_
                · have e149 := hin.is 12 149 (by kernel_rfl) (by decide) (by kernel_rfl) (by kernel_rfl) _ rfl
                  clear hin hout
                  intro K Q hK
                  go_simp
                  exact hK _ _ ⟨Same.refl _, rfl⟩
                refine allp_mild 0 rfl rfl rfl (fun a x_ W hout hin hP => ?_) ?_
                · have e150 := hin.is 13 150 (by kernel_rfl) (by decide) (by kernel_rfl) (by kernel_rfl) _ rfl
                  obtain ⟨A5, c5, A6, c6, hr⟩ := hP.open
                  have hc := hr.get (i := 3) rfl
                  clear hP hr
                  clear hin hout
                  intro K0 Q hK
                  go_simp
                  exact hK _ _ ⟨Same.refl _, rfl⟩
                refine allp_mild 0 rfl rfl rfl (fun a x_ W hout hin hP => ?_) ?_
                · have e147 := hin.is 10 147 (by kernel_rfl) (by decide) (by kernel_rfl) (by kernel_rfl) _ rfl
                  have e151 := hin.is 14 151 (by kernel_rfl) (by decide) (by kernel_rfl) (by kernel_rfl) _ rfl
                  clear hin hout
                  intro K Q hK
                  go_simp
                  exact hK _ _ ⟨Same.refl _, rfl⟩
                refine allp_mild 0 rfl rfl rfl (fun a x_ W hout hin hP => ?_) ?_
                · have e145 := hin.is 8 145 (by kernel_rfl) (by decide) (by kernel_rfl) (by kernel_rfl) _ rfl
                  have e152 := hin.is 15 152 (by kernel_rfl) (by decide) (by kernel_rfl) (by kernel_rfl) _ rfl
                  exact does_pick rfl e145 ⟨Same.refl _, eval_of_get e152⟩
                refine allp_mild 0 rfl rfl rfl (fun a x_ W hout hin hP => ?_) ?_
                · have e153 := hin.is 16 153 (by kernel_rfl) (by decide) (by kernel_rfl) (by kernel_rfl) _ rfl
                  exact does_move rfl e153 ⟨Same.refl _, rfl⟩
                refine allp_mild 0 rfl rfl rfl (fun a x_ W hout hin hP => ?_) ?_
                · have e5 : a.tmps[5]? = some (.pointer (some ⟨g, 0, none⟩)) := (hout 5 (by kernel_rfl)).trans rfl
                  exact does_move rfl e5 ⟨Same.refl _, rfl⟩
                refine allp_mild 0 rfl rfl rfl (fun a x_ W hout hin hP => ?_) ?_
                · have e155 := hin.is 18 155 (by kernel_rfl) (by decide) (by kernel_rfl) (by kernel_rfl) _ rfl
                  have h0 := hP
                  clear hP
                  clear hin hout
                  intro K0 Q hK
                  go_simp
                  refine (h0.len).mono ?_
                  rintro e W' ⟨rfl, hb⟩
                  exact hK _ _ ⟨hb, rfl⟩
                refine allp_mild 0 rfl rfl rfl (fun a x_ W hout hin hP => ?_) ?_
                · have e7 : a.tmps[7]? = some (.pointer (some ⟨gq, 0, none⟩)) := (hout 7 (by kernel_rfl)).trans rfl
                  exact does_move rfl e7 ⟨Same.refl _, rfl⟩
                refine allp_mild 0 rfl rfl rfl (fun a x_ W hout hin hP => ?_) ?_
                · have e157 := hin.is 20 157 (by kernel_rfl) (by decide) (by kernel_rfl) (by kernel_rfl) _ rfl
                  clear hin hout
                  intro K Q hK
                  go_simp
                  exact hK _ _ ⟨Same.refl _, rfl⟩
                refine allp_mild 0 rfl rfl rfl (fun a x_ W hout hin hP => ?_) ?_
                · have e158 := hin.is 21 158 (by kernel_rfl) (by decide) (by kernel_rfl) (by kernel_rfl) _ rfl
                  clear hin hout
                  intro K Q hK
                  go_simp
                  exact hK _ _ ⟨Same.refl _, rfl⟩
                refine allp_mild 0 rfl rfl rfl (fun a x_ W hout hin hP => ?_) ?_
                · have e159 := hin.is 22 159 (by kernel_rfl) (by decide) (by kernel_rfl) (by kernel_rfl) _ rfl
                  obtain ⟨A5, c5, A6, c6, hr⟩ := hP.open
                  have hc := hr.get (i := 0) rfl
                  clear hP hr
                  clear hin hout
                  intro K0 Q hK
                  go_simp
                  exact hK _ _ ⟨Same.refl _, A5, c5, rfl⟩
                refine allp_mild 0 rfl rfl rfl (fun a x_ W hout hin hP => ?_) ?_
                · obtain ⟨v160, e160, hv160⟩ := hin.get 23 160 (by kernel_rfl) (by decide) (by kernel_rfl) (.inl (by kernel_rfl))
                  obtain ⟨A9, c9, rfl⟩ := hv160
                  clear hP
                  clear hin hout
                  intro K0 Q hK
                  go_simp
                  exact hK _ _ ⟨Same.refl _, rfl⟩
                refine allp_mild 0 rfl rfl rfl (fun a x_ W hout hin hP => ?_) ?_
                · have e156 := hin.is 19 156 (by kernel_rfl) (by decide) (by kernel_rfl) (by kernel_rfl) _ rfl
                  have e161 := hin.is 24 161 (by kernel_rfl) (by decide) (by kernel_rfl) (by kernel_rfl) _ rfl
                  clear hin hout
                  intro K Q hK
                  go_simp
                  exact hK _ _ ⟨Same.refl _, rfl⟩
                refine allp_mild 0 rfl rfl rfl (fun a x_ W hout hin hP => ?_) ?_
                · have e154 := hin.is 17 154 (by kernel_rfl) (by decide) (by kernel_rfl) (by kernel_rfl) _ rfl
                  have e162 := hin.is 25 162 (by kernel_rfl) (by decide) (by kernel_rfl) (by kernel_rfl) _ rfl
                  exact does_pick rfl e154 ⟨Same.refl _, eval_of_get e162⟩
                exact all_end (by decide)
              · intro x_ W hP hV
                have h26 : x_ 26 = .bool false := hV 26 (by decide) (.inl (by kernel_rfl))
                obtain ⟨F9, G9, h9, _⟩ := hP
                have HP := Lib.hid h9
                clear hV h9
                simp only [putL, Act.put, List.setIfInBounds_toArray, List.set_cons_succ, List.set_cons_zero, h26]
                refine wpAnyH_done (by kernel_rfl) ?_ _
                go_wp2_with fail
                exact ⟨⟨k + 1, by omega, by go_num, _, _, _, HP.out, HLu.out, HSu.out⟩, by simp [intOf]; omega⟩
          · obtain rfl : k = m := by omega
            have CU := HR.out.ups (by have := HL.out; unfold few; omega)
            obtain ⟨L, hL⟩ : ∃ L, n.toNat = L := ⟨_, rfl⟩
            rw [hL] at HSL
            have hL1 : L ≤ 1024 := by have := HNN.out; omega
            clear H1 hlt hk
            go_wp2_with fail
            refine CU.mono ?_
            rintro e W5 ⟨rfl, F5, hT5⟩
            have CU2 := hT5.rups (by have := HL.out; unfold few; omega)
            clear CU
            go_wp2_with fail
            refine CU2.mono ?_
            rintro e W6 ⟨rfl, G6, hT6⟩
            have HS0 : Hid ((M.upped []).s.length = L) := Lib.hid (by show (DiskM.put M.s _).length = _; rw [DiskM.length_put]; exact HSL.out)
            have HL0 : Hid ((M.upped []).l = []) := Lib.hid rfl
            have HD0 : Hid ((M.upped []).down = false) := Lib.hid rfl
            obtain ⟨M0, hM0⟩ : ∃ M0, M.upped [] = M0 := ⟨_, rfl⟩
            rw [hM0] at hT6 HS0 HL0 HD0
            have HT6 := Lib.hid hT6
            clear CU2 hT5 hT6 hM0 HR HL HSL hL
            go_wp2_with fail
            go_loopw [15] (fun i wr => ∃ t : Nat, t ≤ L ∧ i = .int .i64 t ∧ ∃ F G, Two D w.heap.size (.pointer (some ⟨g, 0, none⟩)) (.pointer (some ⟨gq, 0, none⟩)) w wr M0 M0 F G) (fun i _ => L - (intOf i).toNat)
            case atStart => exact ⟨0, by omega, rfl, _, _, HT6.out⟩
            case round =>
              obtain ⟨t, ht, rfl, F7, G7, hT⟩ := hrel
              obtain ⟨gs, cs, vl, hRD⟩ := hT.sec
              rw [HS0.out] at hRD
              have HT := Lib.hid hT
              have ks := hRD.row.get (i := 0) rfl
              clear hT HT6
              by_cases hlt : t < L
              · have HTL : Hid (t < M0.s.length) := Lib.hid (by rw [HS0.out]; exact hlt)
                obtain ⟨B, hB⟩ : ∃ B, M0.s.getD t [] = B := ⟨_, rfl⟩
                have hnow : M0.now t = B := by unfold DiskM.now; rw [HL0.out]; exact hB
                have HB : Hid (B.length = 32) := Lib.hid (by rw [← hnow]; exact now_length (D.ok HT.out.prog) HTL.out)
                have HSB := Lib.hid hB
                have CR := D.read' (t : Int) HT.out.prog (by rw [HL0.out]; exact Nat.zero_le _) (by have := (D.ok HT.out.prog).hi; have := HTL.out; omega) B 0 (by unfold DiskM.rRes DiskM.has; rw [decide_eq_true (by omega), decide_eq_true (by have := HTL.out; omega), HD0.out, Int.toNat_natCast, hnow]; rfl)
                have ht0 : (0 : Int) ≤ (t : Int) := by omega
                have ht1 : (t : Int) < (L : Int) := by omega
                have HRW := Lib.hid hRD
                clear hB hnow hRD
                go_wp2_with fail
                refine CR.mono ?_
                rintro e w3 ⟨rfl, hb3⟩
                have HT4 := Lib.hid (HT.out.still (hb3.trans ((Same.alloc w3 (.cells (bs B) 37)).mono hb3.size)))
                have HRD := Lib.hid (HRW.out.below (hb3.trans ((Same.alloc w3 (.cells (bs B) 37)).mono hb3.size)))
                have RX := Lib.hid (Row.fresh w3 37 (bs B))
                obtain ⟨gb, hgb⟩ : ∃ k, w3.heap.size = k := ⟨_, rfl⟩
                have HGB := Lib.hid hgb
                clear CR HT hb3 hgb HRW ks
                go_wp2_with (first | (refine wpList_store_row rfl 37 _ _ rfl w3.heap.size (bs B) rfl rfl 37 _ (Row.fresh _ _ _) (by rw [size_bs, HB.out]; exact size_blk) (by rw [size_bs, HB.out]; rfl) (one_bs _) ?_; rw [World.setRow_alloc_new]))
                rw [HGB.out] at RX ⊢
                clear HGB
                generalize w3.alloc (.cells (bs B) 37) = w4 at *
                have hF0 : Wl [fun W => RefD w.heap.size W gq (.slice (some ⟨gs, 0, none⟩) L cs) vl M0 ∧ Row W gb 37 (bs B) ∧ Same w4 W] 0 w4.drew := ⟨HRD.out.below (Below.refl _ _).drew, RX.out.call (Below.refl _ _).drew, (Below.refl _ _).drew⟩
                refine wp_region_phs [is (.int .i64 0), is (.bool false), is (.bool false), is (.agg (bs B)), is (.pointer (some ⟨gq, 0, none⟩)), is (.pointer (some ⟨gq, 0, none⟩)), is (.pointer (some ⟨gq, 0, none⟩)), is (.slice (some ⟨gs, 0, none⟩) L cs), is (.int .i64 (t : Int)), is (.pointer (some ⟨gs, t * 32, none⟩)), is (.agg (bs B)), is (.bool false), is (.bool false)] [true, true, true, true, true, true, true, true, true, true, true, true, true] [(fun W => RefD w.heap.size W gq (.slice (some ⟨gs, 0, none⟩) L cs) vl M0 ∧ Row W gb 37 (bs B) ∧ Same w4 W)] [false, false, false, false, false, false, false, false, false, false, false, false, false] [some 0, some 0, some 0, some 0, some 0, some 0, some 0, some 0, some 0, some 0, some 0, some 0, some 0] [some 186, some 187, some 188, some 189, some 190, some 191, some 192, some 193, some 194, some 195, some 196, some 197, some 198] 13 0 (fun _ => true) rfl rfl (by kernel_rfl) (by kernel_rfl) (by kernel_rfl) (by kernel_rfl) ?_ ?_ ?_ ?_ ?_ ?_
                · repeat first | exact wok_nil | refine wok_cons (by first | exact fun _ _ h k => ⟨h.1.below k, h.2.1.call k, h.2.2.trans (k.mono h.2.2.size)⟩) ?_
                · repeat first | exact vok_nil | refine vok_rig (by first | exact fun _ _ _ h => h) ?_ | refine vok_soft (by first | exact fun _ _ _ h _ => h) ?_
                · exact hF0
                · repeat first | exact all_end (by decide) | refine all_cons (by first | exact rfl | exact ⟨rfl, fun _ _ h => h⟩) ?_
                · refine allp_mild 0 rfl rfl rfl (fun a x_ W hout hin hP => ?_) ?_
                  · have e17 : a.tmps[17]? = some (.int .i64 0) := (hout 17 (by kernel_rfl)).trans rfl
                    exact does_move rfl e17 ⟨Same.refl _, rfl⟩
                  refine allp_mild 0 rfl rfl rfl (fun a x_ W hout hin hP => ?_) ?_
                  · have e186 := hin.is 0 186 (by kernel_rfl) (by decide) (by kernel_rfl) (by kernel_rfl) _ rfl
                    clear hin hout
                    intro K Q hK
                    go_simp
                    exact hK _ _ ⟨Same.refl _, rfl⟩
                  refine allp_mild 0 rfl rfl rfl (fun a x_ W hout hin hP => ?_) ?_
                  · have e187 := hin.is 1 187 (by kernel_rfl) (by decide) (by kernel_rfl) (by kernel_rfl) _ rfl
                    exact does_move rfl e187 ⟨Same.refl _, rfl⟩
                  refine allp_mild 0 rfl rfl rfl (fun a x_ W hout hin hP => ?_) ?_
                  · have e16 : a.tmps[16]? = some (.pointer (some ⟨gb, 0, none⟩)) := (hout 16 (by kernel_rfl)).trans rfl
                    clear hin hout
                    intro K0 Q hK
                    refine wp_load_mid 37 (.tmp 16) rfl gb 0 (eval_of_get e16) (bs B).toList _ (row_range hP.2.1 (Below.refl W.heap.size W) hP.2.1.lt) Try.underlying37 rfl (by rw [len_bs, HB.out]; exact size_blk) ?_
                    exact hK _ _ ⟨Same.refl _, by simp [Vs, is]⟩
                  refine allp_mild 0 rfl rfl rfl (fun a x_ W hout hin hP => ?_) ?_
                  · have e7 : a.tmps[7]? = some (.pointer (some ⟨gq, 0, none⟩)) := (hout 7 (by kernel_rfl)).trans rfl
                    exact does_move rfl e7 ⟨Same.refl _, rfl⟩
                  refine allp_mild 0 rfl rfl rfl (fun a x_ W hout hin hP => ?_) ?_
                  · have e190 := hin.is 4 190 (by kernel_rfl) (by decide) (by kernel_rfl) (by kernel_rfl) _ rfl
                    clear hin hout
                    intro K Q hK
                    go_simp
                    exact hK _ _ ⟨Same.refl _, rfl⟩
                  refine allp_mild 0 rfl rfl rfl (fun a x_ W hout hin hP => ?_) ?_
                  · have e191 := hin.is 5 191 (by kernel_rfl) (by decide) (by kernel_rfl) (by kernel_rfl) _ rfl
                    clear hin hout
                    intro K Q hK
                    go_simp
                    exact hK _ _ ⟨Same.refl _, rfl⟩
                  refine allp_mild 0 rfl rfl rfl (fun a x_ W hout hin hP => ?_) ?_
                  · have e192 := hin.is 6 192 (by kernel_rfl) (by decide) (by kernel_rfl) (by kernel_rfl) _ rfl
                    have hc : W.cell? ⟨gq, 0, none⟩ = some (.slice (some ⟨gs, 0, none⟩) L cs) := hP.1.row.get rfl
                    clear hP
                    clear hin hout
                    intro K0 Q hK
                    go_simp
                    exact hK _ _ ⟨Same.refl _, rfl⟩
                  refine allp_mild 0 rfl rfl rfl (fun a x_ W hout hin hP => ?_) ?_
                  · have e15 : a.tmps[15]? = some (.int .i64 (t : Int)) := (hout 15 (by kernel_rfl)).trans rfl
                    exact does_move rfl e15 ⟨Same.refl _, rfl⟩
                  refine allp_mild 0 rfl rfl rfl (fun a x_ W hout hin hP => ?_) ?_
                  · have e193 := hin.is 7 193 (by kernel_rfl) (by decide) (by kernel_rfl) (by kernel_rfl) _ rfl
                    have e194 := hin.is 8 194 (by kernel_rfl) (by decide) (by kernel_rfl) (by kernel_rfl) _ rfl
                    clear hin hout
                    intro K Q hK
                    go_simp
                    exact hK _ _ ⟨Same.refl _, rfl⟩
                  refine allp_mild 0 rfl rfl rfl (fun a x_ W hout hin hP => ?_) ?_
                  · have e195 := hin.is 9 195 (by kernel_rfl) (by decide) (by kernel_rfl) (by kernel_rfl) _ rfl
                    have hr := sec_at hP.1 HTL.out
                    rw [HSB.out] at hr
                    clear hin hout
                    intro K0 Q hK
                    refine wp_load_mid 37 (.tmp 195) rfl gs (t * 32) (eval_of_get e195) (bs B).toList _ hr Try.underlying37 rfl (by rw [len_bs, HB.out]; exact size_blk) ?_
                    exact hK _ _ ⟨Same.refl _, by simp [Vs, is]⟩
                  refine allp_mild 0 rfl rfl rfl (fun a x_ W hout hin hP => ?_) ?_
                  · have e189 := hin.is 3 189 (by kernel_rfl) (by decide) (by kernel_rfl) (by kernel_rfl) _ rfl
                    have e196 := hin.is 10 196 (by kernel_rfl) (by decide) (by kernel_rfl) (by kernel_rfl) _ rfl
                    have q := eql_blk B B HB.out HB.out W
                    rw [decide_eq_true rfl] at q
                    clear hP
                    clear hin hout
                    intro K0 Q hK
                    go_simp
                    exact hK _ _ ⟨Same.refl _, rfl⟩
                  refine allp_mild 0 rfl rfl rfl (fun a x_ W hout hin hP => ?_) ?_
                  · have e188 := hin.is 2 188 (by kernel_rfl) (by decide) (by kernel_rfl) (by kernel_rfl) _ rfl
                    have e197 := hin.is 11 197 (by kernel_rfl) (by decide) (by kernel_rfl) (by kernel_rfl) _ rfl
                    exact does_pick rfl e188 ⟨Same.refl _, eval_of_get e197⟩
                  exact all_end (by decide)
                · intro x_ W hP hV
                  have h12 : x_ 12 = .bool false := hV 12 (by decide) (.inl (by kernel_rfl))
                  have HP := Lib.hid hP.2.2
                  clear hV hP
                  simp only [putL, Act.put, List.setIfInBounds_toArray, List.set_cons_succ, List.set_cons_zero, h12]
                  refine wpAnyH_done (by kernel_rfl) ?_ _
                  clear h12
                  go_wp2_with fail
                  exact ⟨⟨t + 1, by omega, by go_num, _, _, HT4.out.still HP.out⟩, by simp [intOf]; omega⟩
              · obtain rfl : t = L := by omega
                clear hRD hlt ht
                go_wp2_with fail
                refine (dwakes_any D _).mono ?_
                rintro e w8 ⟨rfl, hb8⟩
                go_wp2_with fail
                go_ret
                exact ⟨rfl, HT.out.below.trans (hb8.mono HT.out.bse)⟩
    · have C0 := D.new w.heap.size w n (Nat.le_refl _) hnb
      rw [makes_no _ _ _ _ hn] at C0
      by_cases h60 : 60 < n
      · have hd1 : decide ((60 : Int) < n) = true := decide_eq_true h60
        have hd2 : decide (n ≤ (1024 : Int)) = false := decide_eq_false (by omega)
        have HNN := Lib.hid hn
        clear hn
        go_wp2_with fail
        refine C0.mono ?_
        rintro e w1 ⟨rfl, hb1⟩
        have HB1 := Lib.hid hb1
        have C1 := ref_new w.heap.size w1 n hb1.size
        rw [makes_no _ _ _ _ HNN.out] at C1
        clear C0 hb1
        go_wp2_with fail
        refine C1.mono ?_
        rintro e w3 ⟨rfl, hb3⟩
        have HB3 := Lib.hid (HB1.out.trans (hb3.mono HB1.out.size))
        clear C1 hb3 HB1
        go_wp2_with fail
        go_loopw [9] (fun i wr => i = .int .i64 0 ∧ wr = w3) (fun _ _ => 0)
        case atStart => exact ⟨rfl, rfl⟩
        case round =>
          obtain ⟨rfl, rfl⟩ := hrel
          by_cases h0 : (0 : Int) < (m : Int)
          · go_wp2_with fail
            refine (dwakes_any D _).mono ?_
            rintro e w4 ⟨rfl, hb4⟩
            go_wp2_with fail
            go_ret
            exact ⟨rfl, HB3.out.trans (hb4.mono HB3.out.size)⟩
          · have hd3 : decide ((0 : Int) < (m : Int)) = false := decide_eq_false h0
            go_wp2_with fail
            refine (dwakes_any D _).mono ?_
            rintro e w4 ⟨rfl, hb4⟩
            go_wp2_with fail
            go_ret
            exact ⟨rfl, HB3.out.trans (hb4.mono HB3.out.size)⟩
      · have hd1 : decide ((60 : Int) < n) = false := decide_eq_false h60
        have HNN := Lib.hid hn
        clear hn
        go_wp2_with fail
        refine C0.mono ?_
        rintro e w1 ⟨rfl, hb1⟩
        have HB1 := Lib.hid hb1
        have C1 := ref_new w.heap.size w1 n hb1.size
        rw [makes_no _ _ _ _ HNN.out] at C1
        clear C0 hb1
        go_wp2_with fail
        refine C1.mono ?_
        rintro e w3 ⟨rfl, hb3⟩
        have HB3 := Lib.hid (HB1.out.trans (hb3.mono HB1.out.size))
        clear C1 hb3 HB1
        go_wp2_with fail
        go_loopw [9] (fun i wr => i = .int .i64 0 ∧ wr = w3) (fun _ _ => 0)
        case atStart => exact ⟨rfl, rfl⟩
        case round =>
          obtain ⟨rfl, rfl⟩ := hrel
          by_cases h0 : (0 : Int) < (m : Int)
          · go_wp2_with fail
            refine (dwakes_any D _).mono ?_
            rintro e w4 ⟨rfl, hb4⟩
            go_wp2_with fail
            go_ret
            exact ⟨rfl, HB3.out.trans (hb4.mono HB3.out.size)⟩
          · have hd3 : decide ((0 : Int) < (m : Int)) = false := decide_eq_false h0
            go_wp2_with fail
            refine (dwakes_any D _).mono ?_
            rintro e w4 ⟨rfl, hb4⟩
            go_wp2_with fail
            go_ret
            exact ⟨rfl, HB3.out.trans (hb4.mono HB3.out.size)⟩
end Go.Proofs.Yteehpdeeaebliaa
