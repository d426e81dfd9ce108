/- The program's Up. -/
import Derived.Test.YteehpdeeaebliaaDiskPrgF
namespace Go.Proofs.Yteehpdeeaebliaa
open Go Go.RowKit
def p_UpPost (base : Nat) (w : World) (g : Nat) (vs : Value) (M : DiskM) (keep : List (BitVec 8)) : Ending → World → Prop := fun e w' =>
  e = .returned (.tuple #[]) ∧ p_RefD base w' g vs (.slice none 0 0) (M.upped keep) ∧ Chg (fun k => k = g ∨ vs.ownBlock = some k) w w'
theorem p_RefD.upped {base : Nat} {w : World} {g : Nat} {vs vl : Value} {M : DiskM} (h : p_RefD base w g vs vl M) : p_RefD base (((w.setCell ⟨g, 1, none⟩ (.slice none 0 0)).setCell ⟨g, 2, none⟩ (.int .i64 (-1))).setCell ⟨g, 3, none⟩ (.bool false)) g vs (.slice none 0 0) ⟨M.s, [], -1, false⟩ := by
  have c := ((Chg.one w g 1 (.slice none 0 0)).setCell (p := ⟨g, 2, none⟩) (.inl rfl) (.int .i64 (-1))).setCell (p := ⟨g, 3, none⟩) (.inl rfl) (.bool false)
  exact ⟨h.hb, ((h.row.put 1 _).put 2 _).put 3 _, own_chg h.sec c (own_apart h.sec h.row (by decide)), World.ownsRow_nil _ _ _ _, h.ok.lo, h.ok.hi, h.ok.s, (fun x hx => by cases hx), by simp⟩
set_option maxRecDepth 20000 in
set_option maxHeartbeats 800000 in
theorem p_refup_any (base : Nat) (w : World) (g : Nat) (vs vl : Value) (M : DiskM) (v : Value) (keep : List (BitVec 8)) (h : p_RefD base w g vs vl M) (hl : M.l.length ≤ 1000000000) (hv : Slice w v keep) (_hkl : keep.length ≤ 1000000000) (hbase : keep ≠ [] → ∀ b o, (∃ n c, v = .slice (some ⟨b, o, none⟩) n c) → b ≠ g ∧ vs.ownBlock ≠ some b) :
    Calls Try.prog 19 #[.pointer (some ⟨g, 0, none⟩), v] w (p_UpPost base w g vs M keep) := by
  have H2 := Lib.hid h
  obtain ⟨gs, n, cs, rfl, hnn⟩ : ∃ gs n cs, vs = .slice (some ⟨gs, 0, none⟩) n cs ∧ M.s.length = n := by
    rcases h.sec.2 with ⟨_, h0⟩ | ⟨gs, cs, _, e, _⟩
    · have := h.ok.lo; omega
    · exact ⟨gs, _, cs, e, rfl⟩
  obtain ⟨Al, m, cl, rfl, hmm⟩ : ∃ Al m cl, vl = .slice Al m cl ∧ M.l.length = m := by
    obtain ⟨A, c, e, _⟩ := own_slice_form h.loo
    exact ⟨A, _, c, e, rfl⟩
  have HN := Lib.hid hnn
  have HM := Lib.hid hmm
  have hn := h.ok.hi
  rw [hnn] at hn
  rw [hmm] at hl
  obtain ⟨Ak, ck, rfl, _, hkc⟩ := hv
  have HKC := Lib.hid hkc
  obtain ⟨p, hp⟩ : ∃ p, keep.length = p := ⟨_, rfl⟩
  have HPL := Lib.hid hp
  have HBA := Lib.hid hbase
  rw [hp] at HBA ⊢
  clear h hnn hmm hkc hp hbase
  go_enter Try.func19, Try.ntmps19
  have k1 : w.cell? ⟨g, 1, none⟩ = some (.slice Al m cl) := H2.out.row.get rfl
  go_wp2_with fail
  clear k1
  go_loopw [13] (fun i wr => ∃ k : Nat, k ≤ m ∧ i = .int .i64 k ∧ p_RefD base wr g (.slice (some ⟨gs, 0, none⟩) n cs) (.slice Al m cl) (M.at_ (DiskM.put M.s (keptTo M.l keep k))) ∧ Chg (fun j => j = g ∨ j = gs) w wr) (fun i _ => m - (intOf i).toNat)
  case atStart => exact ⟨0, by omega, rfl, H2.out, Chg.refl _ _⟩
  case round =>
    obtain ⟨k, hk, rfl, hR, hC⟩ := hrel
    have HR := Lib.hid hR
    have HC := Lib.hid hC
    clear H2
    by_cases hlt : k < m
    · obtain ⟨⟨I, b⟩, hx⟩ : ∃ x, M.l[k]? = some x := ⟨_, List.getElem?_eq_getElem (by rw [HM.out]; exact hlt)⟩
      obtain ⟨gl, rfl⟩ : ∃ gl, Al = some ⟨gl, 0, none⟩ := by
        rcases hR.loo.2 with ⟨_, h0⟩ | ⟨gl, _, _, e, _⟩
        · have e : M.l.length = 0 := h0
          rw [HM.out] at e
          omega
        · injection e with e _ _; exact ⟨gl, e⟩
      have hk0 : (0 : Int) ≤ (k : Int) := by omega
      have hk1 : (k : Int) < (m : Int) := by omega
      have hokl := hR.ok.l (I, b) (List.mem_of_getElem? hx)
      have HB : Hid (b.length = 32) := Lib.hid hokl.2
      have hrg := HR.out.loo_elem hx
      have hz := zeros_put
      by_cases hltp : k < p
      · obtain ⟨y, hy⟩ : ∃ y, keep[k]? = some y := ⟨_, List.getElem?_eq_getElem (by rw [HPL.out]; exact hltp)⟩
        have hkne : keep ≠ [] := by intro e; rw [e] at hy; simp at hy
        obtain ⟨bk, ok, rfl, hbk, hck⟩ := HKC.out hkne
        have hnk := HBA.out hkne bk ok ⟨_, _, rfl⟩
        have cy0 : wr.cell? ⟨bk, ok + k, none⟩ = some (.int .u8 (bd y)) := (World.cell?_of_block (hC.block bk hbk fun e => by
          rcases e with e | e
          · exact hnk.1 e
          · exact hnk.2 (by rw [e]; rfl))).trans (hck k y hy)
        have cy : (wr.alloc (.cells (wcell (I, b)).toArray 65)).cell? ⟨bk, ok + k, none⟩ = some (.int .u8 (bd y)) := (World.cell?_alloc_lt wr _ ⟨bk, ok + k, none⟩ (Nat.lt_of_lt_of_le hbk hC.size)).trans cy0
        have hstep := keptTo_step M.l keep k (I, b) y hx hy
        have hod := odd_bd y
        have hk2 : (k : Int) < (p : Int) := by omega
        clear hck hbk hnk HKC cy0 hkne
        cases hbit : y.getLsbD 0 with
        | true =>
          rw [hbit, if_pos rfl] at hstep hod
          obtain ⟨Mk, hMk⟩ : ∃ Mk, M.at_ (DiskM.put M.s (keptTo M.l keep k)) = Mk := ⟨_, rfl⟩
          obtain ⟨Mk1, hMk1⟩ : ∃ Mk1, M.at_ (DiskM.put M.s (keptTo M.l keep (k + 1))) = Mk1 := ⟨_, rfl⟩
          have HK2 := Lib.hid hMk1.symm
          have HK1 : Hid (Mk1 = Mk.at_ (Mk.s.set I b)) := Lib.hid (by rw [← hMk1, ← hMk, hstep, DiskM.put_snoc]; rfl)
          have HX : Hid (Mk.l[k]? = some (I, b)) := Lib.hid (by rw [← hMk]; exact hx)
          have hI : Hid (I < Mk.s.length) := Lib.hid (by rw [← hMk]; exact hokl.1)
          have hIn : I < n := by
            have := hokl.1
            change I < (DiskM.put M.s (keptTo M.l keep k)).length at this
            rw [DiskM.length_put, HN.out] at this
            exact this
          rw [hMk] at HR
          have cond : ((bd y).tmod 2 == 1) = true := by rw [hod]; rfl
          have hi0 : (0 : Int) ≤ (I : Int) := by omega
          have hi1 : (I : Int) < (n : Int) := by omega
          clear hMk hMk1 hx hokl hR hC hy hstep hod hbit
          obtain ⟨W8, hW8⟩ : ∃ W8, wr.alloc (.cells (wcell (I, b)).toArray 65) = W8 := ⟨_, rfl⟩
          have HF8 : Hid (p_RefD base W8 g (.slice (some ⟨gs, 0, none⟩) n cs) (.slice (some ⟨gl, 0, none⟩) m cl) Mk ∧ Chg (fun j => j = g ∨ j = gs) w W8 ∧ Row W8 wr.heap.size 65 (wcell (I, b)).toArray) := Lib.hid (by rw [← hW8]; exact ⟨HR.out.below (Same.alloc _ _), HC.out.alloc _, Row.fresh _ _ _⟩)
          have c4 := HF8.out.2.2
          have HW8 := Lib.hid hW8
          clear hW8 c4
          go_wp2_with (first | (refine wpList_load_mid rfl 65 _ rfl gl (k * 33) rfl (wcell (I, b)) _ hrg Try.underlying65 rfl (by rw [len_wcell HB.out]; exact size_put) ?_) | (refine wpList_store_row rfl 65 _ _ rfl wr.heap.size (wcell (I, b)).toArray rfl rfl 65 _ (Row.fresh _ _ _) (by rw [size_wcell HB.out]; exact size_put) (by rw [size_wcell (x := (I, b)) HB.out]; exact size_wcell (x := (0, blk 0#8)) (length_blk _)) (all_wcell _) ?_; rw [World.setRow_alloc_new]))
          clear hrg hz cy
          rw [HW8.out]
          obtain ⟨gp, hgp⟩ : ∃ gp, wr.heap.size = gp := ⟨_, rfl⟩
          rw [hgp] at HF8 ⊢
          clear hgp
          have hF0 : Wl [fun W => p_RefD base W g (.slice (some ⟨gs, 0, none⟩) n cs) (.slice (some ⟨gl, 0, none⟩) m cl) Mk ∧ Chg (fun j => j = g ∨ j = gs) w W ∧ Row W gp 65 (wcell (I, b)).toArray, fun W => p_RefD base W g (.slice (some ⟨gs, 0, none⟩) n cs) (.slice (some ⟨gl, 0, none⟩) m cl) Mk1 ∧ Chg (fun j => j = g ∨ j = gs) w W] 0 W8.drew := p_f0s HF8.out (Below.refl _ _).drew
          refine wp_region_phs [is (.pointer (some ⟨g, 0, none⟩)), is (.pointer (some ⟨g, 0, none⟩)), is (.pointer (some ⟨g, 0, none⟩)), is (.slice (some ⟨gs, 0, none⟩) n cs), is (.pointer (some ⟨gp, 0, none⟩)), is (.int .i64 (I : Int)), is (.pointer (some ⟨gp, 1, none⟩)), is (.agg (bs b)), is (.pointer (some ⟨gs, I * 32, none⟩)), anyV] [true, true, true, true, true, true, true, true, true, true] [(fun W => p_RefD base W g (.slice (some ⟨gs, 0, none⟩) n cs) (.slice (some ⟨gl, 0, none⟩) m cl) Mk ∧ Chg (fun j => j = g ∨ j = gs) w W ∧ Row W gp 65 (wcell (I, b)).toArray), (fun W => p_RefD base W g (.slice (some ⟨gs, 0, none⟩) n cs) (.slice (some ⟨gl, 0, none⟩) m cl) Mk1 ∧ Chg (fun j => j = g ∨ j = gs) w W)] [false, false, false, false, false, false, false, false, false, true] [some 0, some 0, some 0, some 0, some 0, some 0, some 0, some 0, some 0, some 0] [some 30, some 31, some 32, some 33, some 34, some 35, some 36, some 37, some 38, none] 10 1 (fun _ => true) rfl rfl (by kernel_rfl) (by kernel_rfl) (by kernel_rfl) (by kernel_rfl) ?_ ?_ ?_ ?_ ?_ ?_
          · repeat first | exact wok_nil | refine wok_cons (by first | exact fun _ _ h k => p_f0s h k | exact fun _ _ h k => p_fd_stays h k) ?_
          · repeat first | exact vok_nil | refine vok_rig (by first | exact fun _ _ _ h => h) ?_ | refine vok_soft (by first | exact fun _ _ _ h _ => h) ?_
          · exact hF0
          · repeat first | exact all_end (by decide) | refine all_cons (by first | exact rfl | exact ⟨rfl, fun _ _ h => h⟩) ?_
          · refine allp_mild 0 rfl rfl rfl (fun a x W hout hin hP => ?_) ?_
            · have e0 : a.tmps[0]? = some (.pointer (some ⟨g, 0, none⟩)) := (hout 0 (by kernel_rfl)).trans rfl
              exact does_move rfl e0 ⟨Same.refl _, rfl⟩
            refine allp_mild 0 rfl rfl rfl (fun a x W hout hin hP => ?_) ?_
            · have e30 := hin.is 0 30 (by kernel_rfl) (by decide) (by kernel_rfl) (by kernel_rfl) _ rfl
              clear hin hout
              intro K Q hK
              go_simp
              exact hK _ _ ⟨Same.refl _, rfl⟩
            refine allp_mild 0 rfl rfl rfl (fun a x W hout hin hP => ?_) ?_
            · have e31 := hin.is 1 31 (by kernel_rfl) (by decide) (by kernel_rfl) (by kernel_rfl) _ rfl
              clear hin hout
              intro K Q hK
              go_simp
              exact hK _ _ ⟨Same.refl _, rfl⟩
            refine allp_mild 0 rfl rfl rfl (fun a x W hout hin hP => ?_) ?_
            · have e32 := hin.is 2 32 (by kernel_rfl) (by decide) (by kernel_rfl) (by kernel_rfl) _ rfl
              have hc : W.cell? ⟨g, 0, none⟩ = some (.slice (some ⟨gs, 0, none⟩) n cs) := hP.1.row.get rfl
              clear hP
              clear hin hout
              intro K Q hK
              go_simp
              exact hK _ _ ⟨Same.refl _, rfl⟩
            refine allp_mild 0 rfl rfl rfl (fun a x W hout hin hP => ?_) ?_
            · have e5 : a.tmps[5]? = some (.pointer (some ⟨gp, 0, none⟩)) := (hout 5 (by kernel_rfl)).trans rfl
              clear hin hout
              intro K Q hK
              go_simp
              exact hK _ _ ⟨Same.refl _, rfl⟩
            refine allp_mild 0 rfl rfl rfl (fun a x W hout hin hP => ?_) ?_
            · have e34 := hin.is 4 34 (by kernel_rfl) (by decide) (by kernel_rfl) (by kernel_rfl) _ rfl
              have hc : W.cell? ⟨gp, 0, none⟩ = some (.int .i64 (I : Int)) := hP.2.2.get rfl
              clear hP
              clear hin hout
              intro K Q hK
              go_simp
              exact hK _ _ ⟨Same.refl _, rfl⟩
            refine allp_mild 0 rfl rfl rfl (fun a x W hout hin hP => ?_) ?_
            · have e5 : a.tmps[5]? = some (.pointer (some ⟨gp, 0, none⟩)) := (hout 5 (by kernel_rfl)).trans rfl
              clear hin hout
              intro K Q hK
              go_simp
              exact hK _ _ ⟨Same.refl _, rfl⟩
            refine allp_mild 0 rfl rfl rfl (fun a x W hout hin hP => ?_) ?_
            · have e36 := hin.is 6 36 (by kernel_rfl) (by decide) (by kernel_rfl) (by kernel_rfl) _ rfl
              clear hin hout
              intro K Q hK
              refine wp_load_mid 37 (.tmp 36) rfl gp 1 (eval_of_get e36) (bs b).toList _ (put_b hP.2.2) Try.underlying37 rfl (by rw [len_bs, HB.out]; exact size_blk) ?_
              exact hK _ _ ⟨Same.refl _, by simp [Vs, is]⟩
            refine allp_mild 0 rfl rfl rfl (fun a x W hout hin hP => ?_) ?_
            · have e33 := hin.is 3 33 (by kernel_rfl) (by decide) (by kernel_rfl) (by kernel_rfl) _ rfl
              have e35 := hin.is 5 35 (by kernel_rfl) (by decide) (by kernel_rfl) (by kernel_rfl) _ rfl
              clear hin hout
              intro K Q hK
              go_simp
              exact hK _ _ ⟨Same.refl _, rfl⟩
            refine allp_wild 0 rfl rfl rfl (fun a x W hout hin hP => ?_) ?_
            · have e38 := hin.is 8 38 (by kernel_rfl) (by decide) (by kernel_rfl) (by kernel_rfl) _ rfl
              have e37 := hin.is 7 37 (by kernel_rfl) (by decide) (by kernel_rfl) (by kernel_rfl) _ rfl
              clear hout
              intro K Q hK
              have HS := p_stored_sec hP.1 hI.out HB.out
              have HC := hP.2.1
              refine wp_store_mid 37 (.tmp 38) (.tmp 37) rfl gs (I * 32) (bs b) (eval_of_get e38) (eval_of_get e37) (by rw [size_bs, HB.out]; exact p_there_sec hP.1 hI.out) (by rw [size_bs, HB.out]; exact size_blk) (one_bs _) ?_
              rw [bs_toList]
              exact hK undef _ ⟨⟨by rw [HK1.out]; exact HS, Chg.setCells (.inl (.inr rfl)) _ _ HC⟩, trivial⟩
            exact all_end (by decide)
          · intro x W hP hV
            clear hV
            obtain ⟨hD, hC⟩ : p_RefD base W g (.slice (some ⟨gs, 0, none⟩) n cs) (.slice (some ⟨gl, 0, none⟩) m cl) Mk1 ∧ Chg (fun j => j = g ∨ j = gs) w W := hP
            have HD := Lib.hid hD
            have HC := Lib.hid hC
            clear hD hC
            simp only [putL, Act.put, List.setIfInBounds_toArray, List.set_cons_succ, List.set_cons_zero]
            refine wpAnyH_done (by kernel_rfl) ?_ _
            go_wp2_with fail
            exact ⟨⟨k + 1, by omega, by go_num, by rw [← HK2.out]; exact HD.out, HC.out⟩, by simp [intOf]; omega⟩
        | false =>
          rw [hbit, if_neg (by decide)] at hstep hod
          rw [List.append_nil] at hstep
          have HK2 := Lib.hid hstep
          have cond : ((bd y).tmod 2 == 1) = false := by rw [hod]; rfl
          clear hx hR hC hy hstep hod hbit hokl
          go_wp2_with (first | (refine wpList_load_mid rfl 65 _ rfl gl (k * 33) rfl (wcell (I, b)) _ hrg Try.underlying65 rfl (by rw [len_wcell HB.out]; exact size_put) ?_) | (refine wpList_store_row rfl 65 _ _ rfl wr.heap.size (wcell (I, b)).toArray rfl rfl 65 _ (Row.fresh _ _ _) (by rw [size_wcell HB.out]; exact size_put) (by rw [size_wcell (x := (I, b)) HB.out]; exact size_wcell (x := (0, blk 0#8)) (length_blk _)) (all_wcell _) ?_; rw [World.setRow_alloc_new]))
          exact ⟨⟨k + 1, by omega, by go_num, by rw [HK2.out]; exact HR.out.below (Same.alloc _ _), HC.out.alloc _⟩, by simp [intOf]; omega⟩
      · have hstep : keptTo M.l keep (k + 1) = keptTo M.l keep k := by
          rw [keptTo_all M.l keep (k + 1) (.inr (by rw [HPL.out]; omega)), keptTo_all M.l keep k (.inr (by rw [HPL.out]; omega))]
        have HK2 := Lib.hid hstep
        have hd9 : decide ((k : Int) < (p : Int)) = false := decide_eq_false (by omega)
        clear hx hR hC hstep hokl HKC
        go_wp2_with (first | (refine wpList_load_mid rfl 65 _ rfl gl (k * 33) rfl (wcell (I, b)) _ hrg Try.underlying65 rfl (by rw [len_wcell HB.out]; exact size_put) ?_) | (refine wpList_store_row rfl 65 _ _ rfl wr.heap.size (wcell (I, b)).toArray rfl rfl 65 _ (Row.fresh _ _ _) (by rw [size_wcell HB.out]; exact size_put) (by rw [size_wcell (x := (I, b)) HB.out]; exact size_wcell (x := (0, blk 0#8)) (length_blk _)) (all_wcell _) ?_; rw [World.setRow_alloc_new]))
        exact ⟨⟨k + 1, by omega, by go_num, by rw [HK2.out]; exact HR.out.below (Same.alloc _ _), HC.out.alloc _⟩, by simp [intOf]; omega⟩
    · obtain rfl : k = m := by omega
      have e1 : keptTo M.l keep k = DiskM.kept M.l keep := keptTo_all _ _ _ (by rw [HM.out]; omega)
      rw [e1] at HR
      have f1 := hR.row.free 1
      have f2 := hR.row.free 2
      have f3 := hR.row.free 3
      have k1 : wr.cell? ⟨g, 1, none⟩ = some (.slice Al k cl) := hR.row.get rfl
      have k2 : wr.cell? ⟨g, 2, none⟩ = some (.int .i64 M.f) := hR.row.get rfl
      have k3 : wr.cell? ⟨g, 3, none⟩ = some (.bool M.down) := hR.row.get rfl
      have H9 := Lib.hid HR.out.upped
      have HC9 := Lib.hid (((HC.out.setCell (p := ⟨g, 1, none⟩) (.inl (.inl rfl)) (.slice none 0 0)).setCell (p := ⟨g, 2, none⟩) (.inl (.inl rfl)) (.int .i64 (-1))).setCell (p := ⟨g, 3, none⟩) (.inl (.inl rfl)) (.bool false))
      clear hR hC e1
      go_wp2_with fail
      go_end0
      exact ⟨rfl, H9.out, HC9.out.mono fun j hj => .inl (hj.imp id fun e => by rw [e]; rfl)⟩
set_option maxHeartbeats 400000 in
theorem pup_nil (w : World) (v : Value) : Calls Try.prog 19 #[.pointer none, v] w fun e w' => e = .returned (.tuple #[]) ∧ w = w' := by
  go_enter Try.func19, Try.ntmps19
  go_wp2_with fail
  exact bodyPost_ret (results_none Try.results19 _ _ _) rfl ⟨rfl, rfl⟩
end Go.Proofs.Yteehpdeeaebliaa
