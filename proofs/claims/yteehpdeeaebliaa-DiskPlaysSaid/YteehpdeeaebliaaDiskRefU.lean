/- The document's Up. -/
import Derived.Test.YteehpdeeaebliaaDiskRefF
namespace Go.Proofs.Yteehpdeeaebliaa
open Go Go.RowKit
def keptTo (l : List (Nat × List (BitVec 8))) (keep : List (BitVec 8)) (k : Nat) : List (Nat × List (BitVec 8)) := (((l.zip keep).take k).filter fun x => x.2.getLsbD 0).map (·.1)
theorem keptTo_all (l : List (Nat × List (BitVec 8))) (keep : List (BitVec 8)) (k : Nat) (h : l.length ≤ k ∨ keep.length ≤ k) : keptTo l keep k = DiskM.kept l keep := by
  unfold keptTo DiskM.kept
  rw [List.take_of_length_le (by rw [List.length_zip]; omega)]
theorem keptTo_step (l : List (Nat × List (BitVec 8))) (keep : List (BitVec 8)) (k : Nat) (x : Nat × List (BitVec 8)) (y : BitVec 8) (hx : l[k]? = some x) (hy : keep[k]? = some y) : keptTo l keep (k + 1) = keptTo l keep k ++ if y.getLsbD 0 then [x] else [] := by
  have hk : k < (l.zip keep).length := by
    rw [List.length_zip]; have := (List.getElem?_eq_some_iff.1 hx).1; have := (List.getElem?_eq_some_iff.1 hy).1; omega
  have hz : (l.zip keep)[k] = (x, y) := by
    have h1 : (l.zip keep)[k]? = some (x, y) := by simp [List.getElem?_zip_eq_some, hx, hy]
    rw [List.getElem?_eq_getElem hk] at h1
    injection h1
  unfold keptTo
  rw [List.take_succ_eq_append_getElem hk, hz, List.filter_append, List.map_append]
  congr 1
  cases h : y.getLsbD 0 <;> simp only [List.filter_cons, List.filter_nil, h] <;> rfl
theorem odd_bd (y : BitVec 8) : (bd y).tmod 2 = if y.getLsbD 0 then 1 else 0 := by
  rw [Int.tmod_eq_emod_of_nonneg (bd_lo y)]
  unfold bd
  have e : y.getLsbD 0 = decide (y.toNat % 2 = 1) := by
    unfold BitVec.getLsbD; rw [Nat.testBit_zero]
  rw [e]
  by_cases h : y.toNat % 2 = 1
  · rw [decide_eq_true h, if_pos rfl]; omega
  · rw [decide_eq_false h, if_neg (by decide)]; omega
def UpPost (base : Nat) (w : World) (g : Nat) (vs : Value) (M : DiskM) (keep : List (BitVec 8)) : Ending → World → Prop := fun e w' =>
  e = .returned (.tuple #[]) ∧ RefD base w' g vs (.slice none 0 0) (M.upped keep) ∧ Chg (fun k => k = g ∨ vs.ownBlock = some k) w w'
theorem RefD.upped {base : Nat} {w : World} {g : Nat} {vs vl : Value} {M : DiskM} (h : RefD base w g vs vl M) : RefD base (((w.setCell ⟨g, 1, none⟩ (.slice none 0 0)).setCell ⟨g, 2, none⟩ (.int .i64 (-1))).setCell ⟨g, 3, none⟩ (.bool false)) g vs (.slice none 0 0) ⟨M.s, [], -1, false⟩ := by
  have c := ((Chg.one w g 1 (.slice none 0 0)).setCell (p := ⟨g, 2, none⟩) (.inl rfl) (.int .i64 (-1))).setCell (p := ⟨g, 3, none⟩) (.inl rfl) (.bool false)
  exact ⟨h.hb, ((h.row.put 1 _).put 2 _).put 3 _, own_chg h.sec c (own_apart h.sec h.row (by decide)), World.ownsRow_nil _ _ _ _, h.ok.lo, h.ok.hi, h.ok.s, (fun x hx => by cases hx), by simp⟩
set_option maxRecDepth 20000 in
set_option maxHeartbeats 800000 in
theorem refup_any (base : Nat) (w : World) (g : Nat) (vs vl : Value) (M : DiskM) (v : Value) (keep : List (BitVec 8)) (h : RefD base w g vs vl M) (hl : M.l.length ≤ 1000000000) (hv : Slice w v keep) (hkl : keep.length ≤ 1000000000) (hbase : keep ≠ [] → ∀ b o, (∃ n c, v = .slice (some ⟨b, o, none⟩) n c) → b ≠ g ∧ vs.ownBlock ≠ some b) :
    Calls Try.prog 20 #[.pointer (some ⟨g, 0, none⟩), v] w (UpPost base w g vs M keep) := by
  have H2 := Lib.hid h
  obtain ⟨gs, n, cs, rfl, hnn⟩ : ∃ gs n cs, vs = .slice (some ⟨gs, 0, none⟩) n cs ∧ M.s.length = n := by
    rcases h.sec.2 with ⟨_, h0⟩ | ⟨gs, cs, _, e, _⟩
    · have := h.ok.lo; omega
    · exact ⟨gs, _, cs, e, rfl⟩
  obtain ⟨Al, m, cl, rfl, hmm⟩ : ∃ Al m cl, vl = .slice Al m cl ∧ M.l.length = m := by
    obtain ⟨A, c, e, _⟩ := own_slice_form h.loo
    exact ⟨A, _, c, e, rfl⟩
  have HN := Lib.hid hnn
  have HM := Lib.hid hmm
  have hn := h.ok.hi
  rw [hnn] at hn
  rw [hmm] at hl
  obtain ⟨Ak, ck, rfl, _, hkc⟩ := hv
  have HKC := Lib.hid hkc
  obtain ⟨p, hp⟩ : ∃ p, keep.length = p := ⟨_, rfl⟩
  have HPL := Lib.hid hp
  have HBA := Lib.hid hbase
  rw [hp] at HBA hkl ⊢
  clear h hnn hmm hkc hp hbase
  go_enter Try.func20, Try.ntmps20
  go_wp2_with fail
  go_loopw [4] (fun i wr => ∃ k : Nat, k ≤ m ∧ k ≤ p ∧ i = .int .i64 k ∧ RefD base wr g (.slice (some ⟨gs, 0, none⟩) n cs) (.slice Al m cl) (M.at_ (DiskM.put M.s (keptTo M.l keep k))) ∧ Chg (fun j => j = g ∨ j = gs) w wr) (fun i _ => m - (intOf i).toNat)
  case atStart => exact ⟨0, by omega, by omega, rfl, H2.out, Chg.refl _ _⟩
  case round =>
    obtain ⟨k, hk, hkp, rfl, hR, hC⟩ := hrel
    have HR := Lib.hid hR
    have HC := Lib.hid hC
    have k1 : wr.cell? ⟨g, 1, none⟩ = some (.slice Al m cl) := hR.row.get rfl
    clear H2
    by_cases hlt : k < m ∧ k < p
    · obtain ⟨hlt, hltp⟩ := hlt
      obtain ⟨⟨I, b⟩, hx⟩ : ∃ x, M.l[k]? = some x := ⟨_, List.getElem?_eq_getElem (by rw [HM.out]; exact hlt)⟩
      obtain ⟨y, hy⟩ : ∃ y, keep[k]? = some y := ⟨_, List.getElem?_eq_getElem (by rw [HPL.out]; exact hltp)⟩
      obtain ⟨gl, rfl⟩ : ∃ gl, Al = some ⟨gl, 0, none⟩ := by
        rcases hR.loo.2 with ⟨_, h0⟩ | ⟨gl, _, _, e, _⟩
        · have e : M.l.length = 0 := h0
          rw [HM.out] at e
          omega
        · injection e with e _ _; exact ⟨gl, e⟩
      have hkne : keep ≠ [] := by intro e; rw [e] at hy; simp at hy
      obtain ⟨bk, ok, rfl, hbk, hck⟩ := HKC.out hkne
      have hnk := HBA.out hkne bk ok ⟨_, _, rfl⟩
      have cy : wr.cell? ⟨bk, ok + k, none⟩ = some (.int .u8 (bd y)) := (World.cell?_of_block (hC.block bk hbk fun e => by
        rcases e with e | e
        · exact hnk.1 e
        · exact hnk.2 (by rw [e]; rfl))).trans (hck k y hy)
      have hstep := keptTo_step M.l keep k (I, b) y hx hy
      have hod := odd_bd y
      have hk0 : (0 : Int) ≤ (k : Int) := by omega
      have hk1 : (k : Int) < (m : Int) := by omega
      have hk2 : (k : Int) < (p : Int) := by omega
      clear hck hbk hnk HKC hkne
      cases hbit : y.getLsbD 0 with
      | true =>
        rw [hbit, if_pos rfl] at hstep hod
        obtain ⟨Mk, hMk⟩ : ∃ Mk, M.at_ (DiskM.put M.s (keptTo M.l keep k)) = Mk := ⟨_, rfl⟩
        obtain ⟨Mk1, hMk1⟩ : ∃ Mk1, M.at_ (DiskM.put M.s (keptTo M.l keep (k + 1))) = Mk1 := ⟨_, rfl⟩
        have HK2 := Lib.hid hMk1.symm
        have HK1 : Hid (Mk1 = Mk.at_ (Mk.s.set I b)) := Lib.hid (by rw [← hMk1, ← hMk, hstep, DiskM.put_snoc]; rfl)
        have HX : Hid (Mk.l[k]? = some (I, b)) := Lib.hid (by rw [← hMk]; exact hx)
        have hokl := hR.ok.l (I, b) (List.mem_of_getElem? hx)
        have hI : Hid (I < Mk.s.length) := Lib.hid (by rw [← hMk]; exact hokl.1)
        have HB : Hid (b.length = 32) := Lib.hid hokl.2
        have hIn : I < n := by
          have := hokl.1
          change I < (DiskM.put M.s (keptTo M.l keep k)).length at this
          rw [DiskM.length_put, HN.out] at this
          exact this
        rw [hMk] at HR
        have cond : ((bd y).tmod 2 == 1) = true := by rw [hod]; rfl
        have hi0 : (0 : Int) ≤ (I : Int) := by omega
        have hi1 : (I : Int) < (n : Int) := by omega
        clear hMk hMk1 hx hokl hR hC hy hstep hod hbit
        go_wp2_with fail
        have hF0 : Wl [fun W => RefD base W g (.slice (some ⟨gs, 0, none⟩) n cs) (.slice (some ⟨gl, 0, none⟩) m cl) Mk ∧ Chg (fun j => j = g ∨ j = gs) w W, fun W => RefD base W g (.slice (some ⟨gs, 0, none⟩) n cs) (.slice (some ⟨gl, 0, none⟩) m cl) Mk1 ∧ Chg (fun j => j = g ∨ j = gs) w W] 0 wr.drew := ⟨HR.out.below (Below.refl _ _).drew, HC.out.drew⟩
        refine wp_region_phs [is (.pointer (some ⟨g, 0, none⟩)), is (.pointer (some ⟨g, 0, none⟩)), is (.pointer (some ⟨g, 0, none⟩)), is (.slice (some ⟨gs, 0, none⟩) n cs), is (.pointer (some ⟨g, 0, none⟩)), is (.pointer (some ⟨g, 0, none⟩)), is (.pointer (some ⟨g, 1, none⟩)), is (.slice (some ⟨gl, 0, none⟩) m cl), is (.int .i64 (k : Int)), is (.pointer (some ⟨gl, k * 33, none⟩)), is (.pointer (some ⟨gl, k * 33, none⟩)), is (.int .i64 (I : Int)), is (.pointer (some ⟨g, 0, none⟩)), is (.pointer (some ⟨g, 0, none⟩)), is (.pointer (some ⟨g, 1, none⟩)), is (.slice (some ⟨gl, 0, none⟩) m cl), is (.int .i64 (k : Int)), is (.pointer (some ⟨gl, k * 33, none⟩)), is (.pointer (some ⟨gl, k * 33 + 1, none⟩)), is (.agg (bs b)), is (.pointer (some ⟨gs, I * 32, none⟩)), anyV] [true, true, true, true, true, true, true, true, true, true, true, true, true, true, true, true, true, true, true, true, true, true] [(fun W => RefD base W g (.slice (some ⟨gs, 0, none⟩) n cs) (.slice (some ⟨gl, 0, none⟩) m cl) Mk ∧ Chg (fun j => j = g ∨ j = gs) w W), (fun W => RefD base W g (.slice (some ⟨gs, 0, none⟩) n cs) (.slice (some ⟨gl, 0, none⟩) m cl) Mk1 ∧ Chg (fun j => j = g ∨ j = gs) w W)] [false, false, false, false, false, false, false, false, false, false, false, false, false, false, false, false, false, false, false, false, false, true] [some 0, some 0, some 0, some 0, some 0, some 0, some 0, some 0, some 0, some 0, some 0, some 0, some 0, some 0, some 0, some 0, some 0, some 0, some 0, some 0, some 0, some 0] [some 26, some 27, some 28, some 29, some 30, some 31, some 32, some 33, some 34, some 35, some 36, some 37, some 38, some 39, some 40, some 41, some 42, some 43, some 44, some 45, some 46, none] 22 1 (fun _ => true) rfl rfl (by kernel_rfl) (by kernel_rfl) (by kernel_rfl) (by kernel_rfl) ?_ ?_ ?_ ?_ ?_ ?_
        · repeat first | exact wok_nil | refine wok_cons (by first | exact fun _ _ h k => fd_stays h k) ?_
        · repeat first | exact vok_nil | refine vok_rig (by first | exact fun _ _ _ h => h) ?_ | refine vok_soft (by first | exact fun _ _ _ h _ => h) ?_
        · exact hF0
        · repeat first | exact all_end (by decide) | refine all_cons (by first | exact rfl | exact ⟨rfl, fun _ _ h => h⟩) ?_
        · refine allp_mild 0 rfl rfl rfl (fun a x W hout hin hP => ?_) ?_
          · have e0 : a.tmps[0]? = some (.pointer (some ⟨g, 0, none⟩)) := (hout 0 (by kernel_rfl)).trans rfl
            exact does_move rfl e0 ⟨Same.refl _, rfl⟩
          refine allp_mild 0 rfl rfl rfl (fun a x W hout hin hP => ?_) ?_
          · have e26 := hin.is 0 26 (by kernel_rfl) (by decide) (by kernel_rfl) (by kernel_rfl) _ rfl
            clear hin hout
            intro K Q hK
            go_simp
            exact hK _ _ ⟨Same.refl _, rfl⟩
          refine allp_mild 0 rfl rfl rfl (fun a x W hout hin hP => ?_) ?_
          · have e27 := hin.is 1 27 (by kernel_rfl) (by decide) (by kernel_rfl) (by kernel_rfl) _ rfl
            clear hin hout
            intro K Q hK
            go_simp
            exact hK _ _ ⟨Same.refl _, rfl⟩
          refine allp_mild 0 rfl rfl rfl (fun a x W hout hin hP => ?_) ?_
          · have e28 := hin.is 2 28 (by kernel_rfl) (by decide) (by kernel_rfl) (by kernel_rfl) _ rfl
            have hc : W.cell? ⟨g, 0, none⟩ = some (.slice (some ⟨gs, 0, none⟩) n cs) := hP.1.row.get rfl
            clear hP
            clear hin hout
            intro K Q hK
            go_simp
            exact hK _ _ ⟨Same.refl _, rfl⟩
          refine allp_mild 0 rfl rfl rfl (fun a x W hout hin hP => ?_) ?_
          · have e0 : a.tmps[0]? = some (.pointer (some ⟨g, 0, none⟩)) := (hout 0 (by kernel_rfl)).trans rfl
            exact does_move rfl e0 ⟨Same.refl _, rfl⟩
          refine allp_mild 0 rfl rfl rfl (fun a x W hout hin hP => ?_) ?_
          · have e30 := hin.is 4 30 (by kernel_rfl) (by decide) (by kernel_rfl) (by kernel_rfl) _ rfl
            clear hin hout
            intro K Q hK
            go_simp
            exact hK _ _ ⟨Same.refl _, rfl⟩
          refine allp_mild 0 rfl rfl rfl (fun a x W hout hin hP => ?_) ?_
          · have e31 := hin.is 5 31 (by kernel_rfl) (by decide) (by kernel_rfl) (by kernel_rfl) _ rfl
            clear hin hout
            intro K Q hK
            go_simp
            exact hK _ _ ⟨Same.refl _, rfl⟩
          refine allp_mild 0 rfl rfl rfl (fun a x W hout hin hP => ?_) ?_
          · have e32 := hin.is 6 32 (by kernel_rfl) (by decide) (by kernel_rfl) (by kernel_rfl) _ rfl
            have hc : W.cell? ⟨g, 1, none⟩ = some (.slice (some ⟨gl, 0, none⟩) m cl) := hP.1.row.get rfl
            clear hP
            clear hin hout
            intro K Q hK
            go_simp
            exact hK _ _ ⟨Same.refl _, rfl⟩
          refine allp_mild 0 rfl rfl rfl (fun a x W hout hin hP => ?_) ?_
          · have e4 : a.tmps[4]? = some (.int .i64 (k : Int)) := (hout 4 (by kernel_rfl)).trans rfl
            exact does_move rfl e4 ⟨Same.refl _, rfl⟩
          refine allp_mild 0 rfl rfl rfl (fun a x W hout hin hP => ?_) ?_
          · have e33 := hin.is 7 33 (by kernel_rfl) (by decide) (by kernel_rfl) (by kernel_rfl) _ rfl
            have e34 := hin.is 8 34 (by kernel_rfl) (by decide) (by kernel_rfl) (by kernel_rfl) _ rfl
            clear hin hout
            intro K Q hK
            go_simp
            exact hK _ _ ⟨Same.refl _, rfl⟩
          refine allp_mild 0 rfl rfl rfl (fun a x W hout hin hP => ?_) ?_
          · have e35 := hin.is 9 35 (by kernel_rfl) (by decide) (by kernel_rfl) (by kernel_rfl) _ rfl
            clear hin hout
            intro K Q hK
            go_simp
            exact hK _ _ ⟨Same.refl _, rfl⟩
          refine allp_mild 0 rfl rfl rfl (fun a x W hout hin hP => ?_) ?_
          · have e36 := hin.is 10 36 (by kernel_rfl) (by decide) (by kernel_rfl) (by kernel_rfl) _ rfl
            have hc : W.cell? ⟨gl, k * 33, none⟩ = some (.int .i64 (I : Int)) := wcell_i hP.1 HX.out
            clear hP
            clear hin hout
            intro K Q hK
            go_simp
            exact hK _ _ ⟨Same.refl _, rfl⟩
          refine allp_mild 0 rfl rfl rfl (fun a x W hout hin hP => ?_) ?_
          · have e0 : a.tmps[0]? = some (.pointer (some ⟨g, 0, none⟩)) := (hout 0 (by kernel_rfl)).trans rfl
            exact does_move rfl e0 ⟨Same.refl _, rfl⟩
          refine allp_mild 0 rfl rfl rfl (fun a x W hout hin hP => ?_) ?_
          · have e38 := hin.is 12 38 (by kernel_rfl) (by decide) (by kernel_rfl) (by kernel_rfl) _ rfl
            clear hin hout
            intro K Q hK
            go_simp
            exact hK _ _ ⟨Same.refl _, rfl⟩
          refine allp_mild 0 rfl rfl rfl (fun a x W hout hin hP => ?_) ?_
          · have e39 := hin.is 13 39 (by kernel_rfl) (by decide) (by kernel_rfl) (by kernel_rfl) _ rfl
            clear hin hout
            intro K Q hK
            go_simp
            exact hK _ _ ⟨Same.refl _, rfl⟩
          refine allp_mild 0 rfl rfl rfl (fun a x W hout hin hP => ?_) ?_
          · have e40 := hin.is 14 40 (by kernel_rfl) (by decide) (by kernel_rfl) (by kernel_rfl) _ rfl
            have hc : W.cell? ⟨g, 1, none⟩ = some (.slice (some ⟨gl, 0, none⟩) m cl) := hP.1.row.get rfl
            clear hP
            clear hin hout
            intro K Q hK
            go_simp
            exact hK _ _ ⟨Same.refl _, rfl⟩
          refine allp_mild 0 rfl rfl rfl (fun a x W hout hin hP => ?_) ?_
          · have e4 : a.tmps[4]? = some (.int .i64 (k : Int)) := (hout 4 (by kernel_rfl)).trans rfl
            exact does_move rfl e4 ⟨Same.refl _, rfl⟩
          refine allp_mild 0 rfl rfl rfl (fun a x W hout hin hP => ?_) ?_
          · have e41 := hin.is 15 41 (by kernel_rfl) (by decide) (by kernel_rfl) (by kernel_rfl) _ rfl
            have e42 := hin.is 16 42 (by kernel_rfl) (by decide) (by kernel_rfl) (by kernel_rfl) _ rfl
            clear hin hout
            intro K Q hK
            go_simp
            exact hK _ _ ⟨Same.refl _, rfl⟩
          refine allp_mild 0 rfl rfl rfl (fun a x W hout hin hP => ?_) ?_
          · have e43 := hin.is 17 43 (by kernel_rfl) (by decide) (by kernel_rfl) (by kernel_rfl) _ rfl
            clear hin hout
            intro K Q hK
            go_simp
            exact hK _ _ ⟨Same.refl _, rfl⟩
          refine allp_mild 0 rfl rfl rfl (fun a x W hout hin hP => ?_) ?_
          · have e44 := hin.is 18 44 (by kernel_rfl) (by decide) (by kernel_rfl) (by kernel_rfl) _ rfl
            clear hin hout
            intro K Q hK
            refine wp_load_mid 37 (.tmp 44) rfl gl (k * 33 + 1) (eval_of_get e44) (bs b).toList _ (wcell_b hP.1 HX.out) Try.underlying37 rfl (by rw [len_bs, HB.out]; exact size_blk) ?_
            exact hK _ _ ⟨Same.refl _, by simp [Vs, is]⟩
          refine allp_mild 0 rfl rfl rfl (fun a x W hout hin hP => ?_) ?_
          · have e29 := hin.is 3 29 (by kernel_rfl) (by decide) (by kernel_rfl) (by kernel_rfl) _ rfl
            have e37 := hin.is 11 37 (by kernel_rfl) (by decide) (by kernel_rfl) (by kernel_rfl) _ rfl
            clear hin hout
            intro K Q hK
            go_simp
            exact hK _ _ ⟨Same.refl _, rfl⟩
          refine allp_wild 0 rfl rfl rfl (fun a x W hout hin hP => ?_) ?_
          · have e46 := hin.is 20 46 (by kernel_rfl) (by decide) (by kernel_rfl) (by kernel_rfl) _ rfl
            have e45 := hin.is 19 45 (by kernel_rfl) (by decide) (by kernel_rfl) (by kernel_rfl) _ rfl
            clear hout
            intro K Q hK
            have HS := stored_sec hP.1 hI.out HB.out
            have HC := hP.2
            refine wp_store_mid 37 (.tmp 46) (.tmp 45) rfl gs (I * 32) (bs b) (eval_of_get e46) (eval_of_get e45) (by rw [size_bs, HB.out]; exact there_sec hP.1 hI.out) (by rw [size_bs, HB.out]; exact size_blk) (one_bs _) ?_
            rw [bs_toList]
            exact hK undef _ ⟨⟨by rw [HK1.out]; exact HS, Chg.setCells (.inl (.inr rfl)) _ _ HC⟩, trivial⟩
          exact all_end (by decide)
        · intro x W hP hV
          clear hV
          obtain ⟨hD, hC⟩ : RefD base W g (.slice (some ⟨gs, 0, none⟩) n cs) (.slice (some ⟨gl, 0, none⟩) m cl) Mk1 ∧ Chg (fun j => j = g ∨ j = gs) w W := hP
          have HD := Lib.hid hD
          have HC := Lib.hid hC
          clear hD hC
          simp only [putL, Act.put, List.setIfInBounds_toArray, List.set_cons_succ, List.set_cons_zero]
          refine wpAnyH_done (by kernel_rfl) ?_ _
          go_wp2_with fail
          go_roundw
          case rel => exact ⟨k + 1, by omega, by omega, by go_num, by rw [← HK2.out]; exact HD.out, HC.out⟩
          case measure => simp [intOf]; omega
      | false =>
        rw [hbit, if_neg (by decide)] at hstep hod
        rw [List.append_nil] at hstep
        have HK2 := Lib.hid hstep
        have cond : ((bd y).tmod 2 == 1) = false := by rw [hod]; rfl
        clear hx hR hC hy hstep hod hbit
        go_wp2_with fail
        exact ⟨⟨k + 1, by omega, by omega, by go_num, by rw [HK2.out]; exact HR.out, HC.out⟩, by simp [intOf]; omega⟩
    · have e1 : keptTo M.l keep k = DiskM.kept M.l keep := keptTo_all _ _ _ (by rw [HM.out, HPL.out]; omega)
      rw [e1] at HR
      have f1 := hR.row.free 1
      have f2 := hR.row.free 2
      have f3 := hR.row.free 3
      have k2 : wr.cell? ⟨g, 2, none⟩ = some (.int .i64 M.f) := hR.row.get rfl
      have k3 : wr.cell? ⟨g, 3, none⟩ = some (.bool M.down) := hR.row.get rfl
      have H9 := Lib.hid HR.out.upped
      have HC9 := Lib.hid (((HC.out.setCell (p := ⟨g, 1, none⟩) (.inl (.inl rfl)) (.slice none 0 0)).setCell (p := ⟨g, 2, none⟩) (.inl (.inl rfl)) (.int .i64 (-1))).setCell (p := ⟨g, 3, none⟩) (.inl (.inl rfl)) (.bool false))
      have hd : k < m → ¬ k < p := fun h1 h2 => hlt ⟨h1, h2⟩
      clear hR hC e1
      by_cases hm : k < m
      · have hp := hd hm
        clear hd hlt
        go_wp2_with fail
        go_end0
        exact ⟨rfl, H9.out, HC9.out.mono fun j hj => .inl (hj.imp id fun e => by rw [e]; rfl)⟩
      · clear hd hlt
        go_wp2_with fail
        go_end0
        exact ⟨rfl, H9.out, HC9.out.mono fun j hj => .inl (hj.imp id fun e => by rw [e]; rfl)⟩
end Go.Proofs.Yteehpdeeaebliaa
