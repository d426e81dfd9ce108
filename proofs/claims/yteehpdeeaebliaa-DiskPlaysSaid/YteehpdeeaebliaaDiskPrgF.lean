/- The program's Flush. -/
import Derived.Test.YteehpdeeaebliaaDiskPrgW
namespace Go.Proofs.Yteehpdeeaebliaa
open Go Go.RowKit
theorem zeros_put : (#[.int .i64 0, .int .u8 0, .int .u8 0, .int .u8 0, .int .u8 0, .int .u8 0, .int .u8 0, .int .u8 0, .int .u8 0, .int .u8 0, .int .u8 0, .int .u8 0, .int .u8 0, .int .u8 0, .int .u8 0, .int .u8 0, .int .u8 0, .int .u8 0, .int .u8 0, .int .u8 0, .int .u8 0, .int .u8 0, .int .u8 0, .int .u8 0, .int .u8 0, .int .u8 0, .int .u8 0, .int .u8 0, .int .u8 0, .int .u8 0, .int .u8 0, .int .u8 0, .int .u8 0] : Array Value) = (wcell (0, blk 0#8)).toArray := by rfl
theorem size_put : (Try.prog.info? 65).map (·.size) = some 33 := by kernel_rfl
theorem put_b {W : World} {g : Nat} {t : TypeId} {x : Nat × List (BitVec 8)} (h : Row W g t (wcell x).toArray) : W.rangeAt g 1 (bs x.2).toList := fun j v hv => by
  rw [Nat.add_comm]
  exact h.get (i := j + 1) (by rw [bs_toList] at hv; simpa [wcell] using hv)
theorem len_wcell {x : Nat × List (BitVec 8)} (h : x.2.length = 32) : (wcell x).length = 33 := by rw [length_wcell x h]
theorem size_wcell {x : Nat × List (BitVec 8)} (h : x.2.length = 32) : (wcell x).toArray.size = 33 := by rw [List.size_toArray, len_wcell h]
theorem all_wcell (x : Nat × List (BitVec 8)) : (wcell x).toArray.all (·.oneCell') = true := all_oneCell_toArray (one_wcell x)
theorem p_f0s {base g gs gp : Nat} {vs vl : Value} {M : DiskM} {w W W' : World} {t : TypeId} {cs : Array Value} (h : p_RefD base W g vs vl M ∧ Chg (fun j => j = g ∨ j = gs) w W ∧ Row W gp t cs) (k : Same W W') : p_RefD base W' g vs vl M ∧ Chg (fun j => j = g ∨ j = gs) w W' ∧ Row W' gp t cs :=
  ⟨h.1.below k, h.2.1.trans (Chg.of_below (F := fun _ => False) k) (fun _ h => h.elim), h.2.2.call k⟩
theorem p_RefD.loo_elem {base : Nat} {w : World} {g gl m cl k : Nat} {vs : Value} {M : DiskM} {x : Nat × List (BitVec 8)} (h : p_RefD base w g vs (.slice (some ⟨gl, 0, none⟩) m cl) M) (hx : M.l[k]? = some x) : w.rangeAt gl (k * 33) (wcell x) := by
  have hl := h.loo
  rw [own_n hl] at hl
  exact own_elem hl (wc_len fun x hx => (h.ok.l x hx).2) (by simp [hx])
theorem p_wcell_i {base : Nat} {w : World} {g gl m cl k : Nat} {vs : Value} {M : DiskM} {x : Nat × List (BitVec 8)} (h : p_RefD base w g vs (.slice (some ⟨gl, 0, none⟩) m cl) M) (hx : M.l[k]? = some x) : w.cell? ⟨gl, k * 33, none⟩ = some (.int .i64 (x.1 : Int)) := by
  have := h.loo_elem hx 0 _ rfl
  simpa using this
theorem p_wcell_b {base : Nat} {w : World} {g gl m cl k : Nat} {vs : Value} {M : DiskM} {x : Nat × List (BitVec 8)} (h : p_RefD base w g vs (.slice (some ⟨gl, 0, none⟩) m cl) M) (hx : M.l[k]? = some x) : w.rangeAt gl (k * 33 + 1) (bs x.2).toList := fun j v hv => by
  have := h.loo_elem hx (j + 1) v (by rw [bs_toList] at hv; simpa [wcell] using hv)
  rw [show k * 33 + 1 + j = k * 33 + (j + 1) by omega]; exact this
theorem p_there_sec {base : Nat} {w : World} {g gs n cs I : Nat} {vl : Value} {M : DiskM} (h : p_RefD base w g (.slice (some ⟨gs, 0, none⟩) n cs) vl M) (hI : I < M.s.length) : w.there gs (I * 32) 32 := by
  have hn : M.s.length = n := by rcases h.sec.2 with ⟨e, _⟩ | ⟨_, _, _, e, _⟩; cases e; injection e with _ e _; exact e.symm
  have hs := h.sec
  rw [hn] at hs
  exact own_there hs (sec_len h.ok.s) (by simpa using hI)
theorem p_stored_sec {base : Nat} {w : World} {g gs n cs I : Nat} {vl : Value} {M : DiskM} {b : List (BitVec 8)} (h : p_RefD base w g (.slice (some ⟨gs, 0, none⟩) n cs) vl M) (hI : I < M.s.length) (hb : b.length = 32) : p_RefD base (w.setCells gs (I * 32) (bytesV b)) g (.slice (some ⟨gs, 0, none⟩) n cs) vl (M.at_ (M.s.set I b)) := by
  have hn : M.s.length = n := by rcases h.sec.2 with ⟨e, _⟩ | ⟨_, _, _, e, _⟩; cases e; injection e with _ e _; exact e.symm
  have hs := h.sec
  rw [hn] at hs
  have h1 := own_store hs (sec_len h.ok.s) (k := I) (by simpa using hI) (c := bytesV b) (by rw [len_bytesV, hb])
  have c : Chg (fun j => j = gs) w (w.setCells gs (I * 32) (bytesV b)) := Chg.setCells (F := fun j => j = gs) (.inl rfl) _ _ (Chg.refl _ _)
  have hap := own_apart h.sec h.row (by decide)
  have hap2 := own_apart2 h.loo h.sec (by decide)
  refine ⟨h.hb, h.row.chg c (fun e => hap gs rfl e.symm), ?_, own_chg h.loo c (fun k hk e => hap2 k hk (by rw [e]; rfl)), h.ok.put (by simp) (fun d hd => ?_)⟩
  · show World.ownsRow _ _ _ _ _ (M.s.set I b).length ((M.s.set I b).map bytesV).flatten
    rw [List.length_set, hn, List.map_set]
    exact h1
  · rcases List.mem_or_eq_of_mem_set hd with h2 | h2
    · exact h.ok.s d h2
    · rw [h2]; exact hb
theorem p_fd_stays {base g gs : Nat} {vs vl : Value} {M : DiskM} {w W W' : World} (h : p_RefD base W g vs vl M ∧ Chg (fun j => j = g ∨ j = gs) w W) (k : Same W W') : p_RefD base W' g vs vl M ∧ Chg (fun j => j = g ∨ j = gs) w W' :=
  ⟨h.1.below k, h.2.trans (Chg.of_below (F := fun _ => False) k) fun _ h => h.elim⟩
theorem p_RefD.emptied {base : Nat} {w : World} {g : Nat} {vs vl : Value} {M : DiskM} (h : p_RefD base w g vs vl M) : p_RefD base (w.setCell ⟨g, 1, none⟩ (.slice none 0 0)) g vs (.slice none 0 0) { M with l := [] } := by
  have c := Chg.one w g 1 (.slice none 0 0)
  exact ⟨h.hb, h.row.put 1 _, own_chg h.sec c (own_apart h.sec h.row (by decide)), World.ownsRow_nil _ _ _ _, h.ok.lo, h.ok.hi, h.ok.s, (fun x hx => by cases hx), h.ok.f⟩
def p_FlushPost (base : Nat) (w : World) (g : Nat) (vs vl : Value) (M : DiskM) : Ending → World → Prop := fun e w' =>
  if M.stuck then e = .returned (.int .i64 20) ∧ p_RefD base w' g vs vl M.fell ∧ Chg (fun k => k = g) w w'
  else e = .returned (.int .i64 0) ∧ p_RefD base w' g vs (.slice none 0 0) M.flushed ∧ Chg (fun k => k = g ∨ vs.ownBlock = some k) w w'
set_option maxRecDepth 20000 in
set_option maxHeartbeats 800000 in
theorem p_refflush_any (base : Nat) (w : World) (g : Nat) (vs vl : Value) (M : DiskM) (h : p_RefD base w g vs vl M) (hl : M.l.length ≤ 1000000000) :
    Calls Try.prog 17 #[.pointer (some ⟨g, 0, none⟩)] w (p_FlushPost base w g vs vl M) := by
  have H1 := Lib.hid h
  by_cases hs : M.stuck = true
  · have e0 : p_FlushPost base w g vs vl M = fun e w' => e = .returned (.int .i64 20) ∧ p_RefD base w' g vs vl M.fell ∧ Chg (fun k => k = g) w w' := by
      funext e w'; unfold p_FlushPost; rw [if_pos hs]
    rw [e0]
    have C2 := p_refthru_raw _ g vs vl M.f M.down H1.out.row H1.out.ok.f
    rw [show (M.down || M.f == 0) = true from hs] at C2
    clear h
    go_enter Try.func17, Try.ntmps17
    go_wp2_with fail
    refine C2.mono ?_
    rintro e w2 ⟨rfl, r2, c2⟩
    have H2 := Lib.hid (H1.out.next (M' := M.fell) rfl rfl H1.out.ok.fell r2 c2)
    have HC := Lib.hid c2
    clear C2 r2 c2
    go_wp2_with fail
    go_ret
    exact ⟨rfl, H2.out, HC.out⟩
  · have hs' : M.stuck = false := by simpa using hs
    have e0 : p_FlushPost base w g vs vl M = fun e w' => e = .returned (.int .i64 0) ∧ p_RefD base w' g vs (.slice none 0 0) M.flushed ∧ Chg (fun k => k = g ∨ vs.ownBlock = some k) w w' := by
      funext e w'; unfold p_FlushPost; rw [if_neg hs]
    rw [e0]
    have C2 := p_refthru_raw _ g vs vl M.f M.down H1.out.row H1.out.ok.f
    rw [show (M.down || M.f == 0) = false from hs'] at C2
    have HDN : Hid (M.down = false) := Lib.hid (by unfold DiskM.stuck at hs'; exact (Bool.or_eq_false_iff.1 hs').1)
    obtain ⟨gs, n, cs, rfl, hnn⟩ : ∃ gs n cs, vs = .slice (some ⟨gs, 0, none⟩) n cs ∧ M.s.length = n := by
      rcases h.sec.2 with ⟨_, h0⟩ | ⟨gs, cs, _, e, _⟩
      · have := h.ok.lo; omega
      · exact ⟨gs, _, cs, e, rfl⟩
    obtain ⟨Al, m, cl, rfl, hmm⟩ : ∃ Al m cl, vl = .slice Al m cl ∧ M.l.length = m := by
      obtain ⟨A, c, e, _⟩ := own_slice_form h.loo
      exact ⟨A, _, c, e, rfl⟩
    have HN := Lib.hid hnn
    have HM := Lib.hid hmm
    have hn := h.ok.hi
    rw [hnn] at hn
    rw [hmm] at hl
    clear e0 hs hs' h hnn hmm
    go_enter Try.func17, Try.ntmps17
    go_wp2_with fail
    refine C2.mono ?_
    rintro e w1 ⟨rfl, r2, c2⟩
    have r2' : Row w1 g 62 #[.slice (some ⟨gs, 0, none⟩) n cs, .slice Al m cl, .int .i64 M.burnt.f, .bool M.burnt.down] := by rw [show M.burnt.down = false from HDN.out]; exact r2
    have H2 := Lib.hid (H1.out.next (M' := M.burnt) rfl rfl H1.out.ok.burnt r2' c2)
    have HC0 := Lib.hid (c2.mono (F' := fun j => j = g ∨ j = gs) fun k hk => .inl (.inl hk))
    have k1 : w1.cell? ⟨g, 1, none⟩ = some (.slice Al m cl) := H2.out.row.get rfl
    clear C2 r2 r2' c2 H1
    go_wp2_with fail
    clear k1
    go_loopw [15] (fun i wr => ∃ k : Nat, k ≤ m ∧ i = .int .i64 k ∧ p_RefD base wr g (.slice (some ⟨gs, 0, none⟩) n cs) (.slice Al m cl) (M.burnt.at_ (DiskM.put M.s (M.l.take k))) ∧ Chg (fun j => j = g ∨ j = gs) w wr) (fun i _ => m - (intOf i).toNat)
    case atStart => exact ⟨0, by omega, rfl, H2.out, HC0.out⟩
    case round =>
      obtain ⟨k, hk, rfl, hR, hC⟩ := hrel
      have HR := Lib.hid hR
      have HC := Lib.hid hC
      clear H2 HC0
      by_cases hlt : k < m
      · obtain ⟨⟨I, b⟩, hx⟩ : ∃ x, M.l[k]? = some x := ⟨_, List.getElem?_eq_getElem (by rw [HM.out]; exact hlt)⟩
        obtain ⟨gl, rfl⟩ : ∃ gl, Al = some ⟨gl, 0, none⟩ := by
          rcases hR.loo.2 with ⟨_, h0⟩ | ⟨gl, _, _, e, _⟩
          · have e : M.l.length = 0 := h0
            rw [HM.out] at e
            omega
          · injection e with e _ _; exact ⟨gl, e⟩
        obtain ⟨Mk, hMk⟩ : ∃ Mk, M.burnt.at_ (DiskM.put M.s (M.l.take k)) = Mk := ⟨_, rfl⟩
        obtain ⟨Mk1, hMk1⟩ : ∃ Mk1, M.burnt.at_ (DiskM.put M.s (M.l.take (k + 1))) = Mk1 := ⟨_, rfl⟩
        have HK2 := Lib.hid hMk1.symm
        have HK1 : Hid (Mk1 = Mk.at_ (Mk.s.set I b)) := Lib.hid (by rw [← hMk1, ← hMk, take_put _ _ _ _ hx]; rfl)
        have HX : Hid (Mk.l[k]? = some (I, b)) := Lib.hid (by rw [← hMk]; exact hx)
        have hokl := hR.ok.l (I, b) (List.mem_of_getElem? hx)
        have hI : Hid (I < Mk.s.length) := Lib.hid (by rw [← hMk]; exact hokl.1)
        have HB : Hid (b.length = 32) := Lib.hid hokl.2
        have hIn : I < n := by
          have := hokl.1
          change I < (DiskM.put M.s (M.l.take k)).length at this
          rw [DiskM.length_put, HN.out] at this
          exact this
        rw [hMk] at HR
        have hrg := HR.out.loo_elem HX.out
        clear hMk hMk1 hx hokl hR hC
        have hi0 : (0 : Int) ≤ (I : Int) := by omega
        have hi1 : (I : Int) < (n : Int) := by omega
        have hk0 : (0 : Int) ≤ (k : Int) := by omega
        have hk1 : (k : Int) < (m : Int) := by omega
        have hz := zeros_put
        obtain ⟨W8, hW8⟩ : ∃ W8, wr.alloc (.cells (wcell (I, b)).toArray 65) = W8 := ⟨_, rfl⟩
        have HF8 : Hid (p_RefD base W8 g (.slice (some ⟨gs, 0, none⟩) n cs) (.slice (some ⟨gl, 0, none⟩) m cl) Mk ∧ Chg (fun j => j = g ∨ j = gs) w W8 ∧ Row W8 wr.heap.size 65 (wcell (I, b)).toArray) := Lib.hid (by rw [← hW8]; exact ⟨HR.out.below (Same.alloc _ _), HC.out.alloc _, Row.fresh _ _ _⟩)
        have HW8 := Lib.hid hW8
        clear hW8
        go_wp2_with (first | (refine wpList_load_mid rfl 65 _ rfl gl (k * 33) rfl (wcell (I, b)) _ hrg Try.underlying65 rfl (by rw [len_wcell HB.out]; exact size_put) ?_) | (refine wpList_store_row rfl 65 _ _ rfl wr.heap.size (wcell (I, b)).toArray rfl rfl 65 _ (Row.fresh _ _ _) (by rw [size_wcell HB.out]; exact size_put) (by rw [size_wcell (x := (I, b)) HB.out]; exact size_wcell (x := (0, blk 0#8)) (length_blk _)) (all_wcell _) ?_; rw [World.setRow_alloc_new]))
        clear hrg hz
        rw [HW8.out]
        obtain ⟨gp, hgp⟩ : ∃ gp, wr.heap.size = gp := ⟨_, rfl⟩
        rw [hgp] at HF8 ⊢
        clear hgp
        have hF0 : Wl [fun W => p_RefD base W g (.slice (some ⟨gs, 0, none⟩) n cs) (.slice (some ⟨gl, 0, none⟩) m cl) Mk ∧ Chg (fun j => j = g ∨ j = gs) w W ∧ Row W gp 65 (wcell (I, b)).toArray, fun W => p_RefD base W g (.slice (some ⟨gs, 0, none⟩) n cs) (.slice (some ⟨gl, 0, none⟩) m cl) Mk1 ∧ Chg (fun j => j = g ∨ j = gs) w W] 0 W8.drew := p_f0s HF8.out (Below.refl _ _).drew
        refine wp_region_phs [is (.pointer (some ⟨g, 0, none⟩)), is (.pointer (some ⟨g, 0, none⟩)), is (.pointer (some ⟨g, 0, none⟩)), is (.slice (some ⟨gs, 0, none⟩) n cs), is (.pointer (some ⟨gp, 0, none⟩)), is (.int .i64 (I : Int)), is (.pointer (some ⟨gp, 1, none⟩)), is (.agg (bs b)), is (.pointer (some ⟨gs, I * 32, none⟩)), anyV] [true, true, true, true, true, true, true, true, true, true] [(fun W => p_RefD base W g (.slice (some ⟨gs, 0, none⟩) n cs) (.slice (some ⟨gl, 0, none⟩) m cl) Mk ∧ Chg (fun j => j = g ∨ j = gs) w W ∧ Row W gp 65 (wcell (I, b)).toArray), (fun W => p_RefD base W g (.slice (some ⟨gs, 0, none⟩) n cs) (.slice (some ⟨gl, 0, none⟩) m cl) Mk1 ∧ Chg (fun j => j = g ∨ j = gs) w W)] [false, false, false, false, false, false, false, false, false, true] [some 0, some 0, some 0, some 0, some 0, some 0, some 0, some 0, some 0, some 0] [some 19, some 20, some 21, some 22, some 23, some 24, some 25, some 26, some 27, none] 10 1 (fun _ => true) rfl rfl (by kernel_rfl) (by kernel_rfl) (by kernel_rfl) (by kernel_rfl) ?_ ?_ ?_ ?_ ?_ ?_
        · repeat first | exact wok_nil | refine wok_cons (by first | exact fun _ _ h k => p_f0s h k | exact fun _ _ h k => p_fd_stays h k) ?_
        · repeat first | exact vok_nil | refine vok_rig (by first | exact fun _ _ _ h => h) ?_ | refine vok_soft (by first | exact fun _ _ _ h _ => h) ?_
        · exact hF0
        · repeat first | exact all_end (by decide) | refine all_cons (by first | exact rfl | exact ⟨rfl, fun _ _ h => h⟩) ?_
        · refine allp_mild 0 rfl rfl rfl (fun a x W hout hin hP => ?_) ?_
          · have e0 : a.tmps[0]? = some (.pointer (some ⟨g, 0, none⟩)) := (hout 0 (by kernel_rfl)).trans rfl
            exact does_move rfl e0 ⟨Same.refl _, rfl⟩
          refine allp_mild 0 rfl rfl rfl (fun a x W hout hin hP => ?_) ?_
          · have e19 := hin.is 0 19 (by kernel_rfl) (by decide) (by kernel_rfl) (by kernel_rfl) _ rfl
            clear hin hout
            intro K Q hK
            go_simp
            exact hK _ _ ⟨Same.refl _, rfl⟩
          refine allp_mild 0 rfl rfl rfl (fun a x W hout hin hP => ?_) ?_
          · have e20 := hin.is 1 20 (by kernel_rfl) (by decide) (by kernel_rfl) (by kernel_rfl) _ rfl
            clear hin hout
            intro K Q hK
            go_simp
            exact hK _ _ ⟨Same.refl _, rfl⟩
          refine allp_mild 0 rfl rfl rfl (fun a x W hout hin hP => ?_) ?_
          · have e21 := hin.is 2 21 (by kernel_rfl) (by decide) (by kernel_rfl) (by kernel_rfl) _ rfl
            have hc : W.cell? ⟨g, 0, none⟩ = some (.slice (some ⟨gs, 0, none⟩) n cs) := hP.1.row.get rfl
            clear hP
            clear hin hout
            intro K Q hK
            go_simp
            exact hK _ _ ⟨Same.refl _, rfl⟩
          refine allp_mild 0 rfl rfl rfl (fun a x W hout hin hP => ?_) ?_
          · have e4 : a.tmps[4]? = some (.pointer (some ⟨gp, 0, none⟩)) := (hout 4 (by kernel_rfl)).trans rfl
            clear hin hout
            intro K Q hK
            go_simp
            exact hK _ _ ⟨Same.refl _, rfl⟩
          refine allp_mild 0 rfl rfl rfl (fun a x W hout hin hP => ?_) ?_
          · have e23 := hin.is 4 23 (by kernel_rfl) (by decide) (by kernel_rfl) (by kernel_rfl) _ rfl
            have hc : W.cell? ⟨gp, 0, none⟩ = some (.int .i64 (I : Int)) := hP.2.2.get rfl
            clear hP
            clear hin hout
            intro K Q hK
            go_simp
            exact hK _ _ ⟨Same.refl _, rfl⟩
          refine allp_mild 0 rfl rfl rfl (fun a x W hout hin hP => ?_) ?_
          · have e4 : a.tmps[4]? = some (.pointer (some ⟨gp, 0, none⟩)) := (hout 4 (by kernel_rfl)).trans rfl
            clear hin hout
            intro K Q hK
            go_simp
            exact hK _ _ ⟨Same.refl _, rfl⟩
          refine allp_mild 0 rfl rfl rfl (fun a x W hout hin hP => ?_) ?_
          · have e25 := hin.is 6 25 (by kernel_rfl) (by decide) (by kernel_rfl) (by kernel_rfl) _ rfl
            clear hin hout
            intro K Q hK
            refine wp_load_mid 37 (.tmp 25) rfl gp 1 (eval_of_get e25) (bs b).toList _ (put_b hP.2.2) Try.underlying37 rfl (by rw [len_bs, HB.out]; exact size_blk) ?_
            exact hK _ _ ⟨Same.refl _, by simp [Vs, is]⟩
          refine allp_mild 0 rfl rfl rfl (fun a x W hout hin hP => ?_) ?_
          · have e22 := hin.is 3 22 (by kernel_rfl) (by decide) (by kernel_rfl) (by kernel_rfl) _ rfl
            have e24 := hin.is 5 24 (by kernel_rfl) (by decide) (by kernel_rfl) (by kernel_rfl) _ rfl
            clear hin hout
            intro K Q hK
            go_simp
            exact hK _ _ ⟨Same.refl _, rfl⟩
          refine allp_wild 0 rfl rfl rfl (fun a x W hout hin hP => ?_) ?_
          · have e27 := hin.is 8 27 (by kernel_rfl) (by decide) (by kernel_rfl) (by kernel_rfl) _ rfl
            have e26 := hin.is 7 26 (by kernel_rfl) (by decide) (by kernel_rfl) (by kernel_rfl) _ rfl
            clear hout
            intro K Q hK
            have HS := p_stored_sec hP.1 hI.out HB.out
            have HC := hP.2.1
            refine wp_store_mid 37 (.tmp 27) (.tmp 26) rfl gs (I * 32) (bs b) (eval_of_get e27) (eval_of_get e26) (by rw [size_bs, HB.out]; exact p_there_sec hP.1 hI.out) (by rw [size_bs, HB.out]; exact size_blk) (one_bs _) ?_
            rw [bs_toList]
            exact hK undef _ ⟨⟨by rw [HK1.out]; exact HS, Chg.setCells (.inl (.inr rfl)) _ _ HC⟩, trivial⟩
          exact all_end (by decide)
        · intro x W hP hV
          clear hV
          obtain ⟨hD, hC⟩ : p_RefD base W g (.slice (some ⟨gs, 0, none⟩) n cs) (.slice (some ⟨gl, 0, none⟩) m cl) Mk1 ∧ Chg (fun j => j = g ∨ j = gs) w W := hP
          have HD := Lib.hid hD
          have HC := Lib.hid hC
          clear hD hC
          simp only [putL, Act.put, List.setIfInBounds_toArray, List.set_cons_succ, List.set_cons_zero]
          refine wpAnyH_done (by kernel_rfl) ?_ _
          go_wp2_with fail
          go_roundw
          case rel => exact ⟨k + 1, by omega, by go_num, by rw [← HK2.out]; exact HD.out, HC.out⟩
          case measure => simp [intOf]; omega
      · obtain rfl : k = m := by omega
        have e1 : M.l.take k = M.l := by rw [← HM.out, List.take_length]
        rw [e1] at HR
        have f1 := hR.row.free 1
        have k1 : wr.cell? ⟨g, 1, none⟩ = some (.slice Al k cl) := hR.row.get rfl
        have H9 := Lib.hid HR.out.emptied
        have HC9 := Lib.hid (HC.out.setCell (p := ⟨g, 1, none⟩) (.inl (.inl rfl)) (.slice none 0 0))
        clear hR hC e1
        go_wp2_with fail
        go_ret
        exact ⟨rfl, H9.out, HC9.out.mono fun j hj => .inl (hj.imp id fun e => by rw [e]; rfl)⟩
end Go.Proofs.Yteehpdeeaebliaa
