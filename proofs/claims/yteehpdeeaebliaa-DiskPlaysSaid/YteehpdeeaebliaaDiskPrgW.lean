/- The program's Write. -/
import Derived.Test.YteehpdeeaebliaaDiskPrg
namespace Go.Proofs.Yteehpdeeaebliaa
open Go Go.RowKit
theorem p_info_write : (Try.prog.info? 65).map (fun i => (i.zero, i.size, i.bytes)) = some (some (.agg (wcell (0, List.replicate 32 0#8)).toArray), 33, 40) := by kernel_rfl
theorem p_info_write2 : (Try.prog.info? 65).map (fun i => (i.zero, i.size)) = some (some (.agg (wcell (0, List.replicate 32 0#8)).toArray), 33) := by kernel_rfl
theorem p_places_write : placesOf Try.prog 65 = some (33, [(0, 1), (1, 32)]) := by kernel_rfl
theorem p_f0_stays {base g n0 : Nat} {vs vl : Value} {M : DiskM} {b : List (BitVec 8)} {w W W' : World} (h : p_RefD base W g vs vl M ∧ Row W n0 37 (bs b) ∧ n0 < W.heap.size ∧ Chg (fun k => k = g) w W) (k : Same W W') : p_RefD base W' g vs vl M ∧ Row W' n0 37 (bs b) ∧ n0 < W'.heap.size ∧ Chg (fun k => k = g) w W' :=
  ⟨h.1.below k, h.2.1.call k, Nat.lt_of_lt_of_le h.2.2.1 k.size, h.2.2.2.trans (Chg.of_below (F := fun _ => False) k) fun _ h => h.elim⟩
/- behind the append, ahead of the store -/
structure p_GrewD (base : Nat) (w W : World) (g : Nat) (vs vl v3 : Value) (n : Nat) (b : List (BitVec 8)) (M : DiskM) : Prop where
  hb : base ≤ g
  row : Row W g 62 #[vs, vl, .int .i64 M.burnt.f, .bool M.burnt.down]
  sec : W.ownsRow base 37 32 vs M.s.length (M.s.map bytesV).flatten
  loo : W.ownsRow base 65 33 v3 (M.wrote n b).l.length ((M.wrote n b).l.map wcell).flatten
  ok : M.burnt.Ok
  chg : Chg (fun k => k = g ∨ vl.ownBlock = some k) w W
  grow : ∀ k, v3.ownBlock = some k → vl.ownBlock = some k ∨ w.heap.size ≤ k
theorem p_GrewD.k1 {base : Nat} {w W : World} {g : Nat} {vs vl v3 : Value} {n : Nat} {b : List (BitVec 8)} {M : DiskM} (h : p_GrewD base w W g vs vl v3 n b M) : W.cell? ⟨g, 1, none⟩ = some vl := h.row.get rfl
theorem p_GrewD.f1 {base : Nat} {w W : World} {g : Nat} {vs vl v3 : Value} {n : Nat} {b : List (BitVec 8)} {M : DiskM} (h : p_GrewD base w W g vs vl v3 n b M) : W.frozen? ⟨g, 1, none⟩ = false := h.row.free 1
theorem p_grewD_stays {base : Nat} {w W W' : World} {g : Nat} {vs vl v3 : Value} {n : Nat} {b : List (BitVec 8)} {M : DiskM} (h : p_GrewD base w W g vs vl v3 n b M) (k : Same W W') : p_GrewD base w W' g vs vl v3 n b M :=
  ⟨h.hb, h.row.call k, owns_call h.sec k, owns_call h.loo k, h.ok, h.chg.trans (Chg.of_below (F := fun _ => False) k) (fun _ h => h.elim), h.grow⟩
theorem p_grewD_intro {base : Nat} {w W w3 : World} {g n : Nat} {vs vl v3 : Value} {M : DiskM} {b : List (BitVec 8)} (h : p_RefD base W g vs vl M.burnt) (own : w3.ownsRow base 65 33 v3 (M.burnt.l.length + 1) ((M.burnt.l.map wcell).flatten ++ wcell (n, b))) (hg : W.grownBy w3 vl.ownBlock) (hw : Where W vl v3) (c : Chg (fun k => k = g) w W) : p_GrewD base w w3 g vs vl v3 n b M := by
  have hap := own_apart h.loo h.row (by decide)
  have hap2 := own_apart2 h.sec h.loo (by decide)
  refine ⟨h.hb, (hg.block g h.row.lt (fun e => hap g e.symm rfl)).trans h.row, h.sec.kept hg (by
    cases hv : vs.ownBlock with
    | none => exact .inl rfl
    | some k => exact .inr fun e => hap2 k hv e.symm), ?_, h.ok, (c.mono (fun k h => .inl (.inl h))).grown hg (fun k h => .inl (.inr h)), fun k hk => (hw.cases hk).imp id (Nat.le_trans c.size)⟩
  have e : ((M.wrote n b).l.map wcell).flatten = (M.burnt.l.map wcell).flatten ++ wcell (n, b) := by simp [DiskM.wrote, DiskM.burnt]
  have e2 : (M.wrote n b).l.length = M.burnt.l.length + 1 := by simp [DiskM.wrote, DiskM.burnt]
  rw [e, e2]
  exact own
def p_WroteD (base : Nat) (w W : World) (g : Nat) (vs vl : Value) (n : Nat) (b : List (BitVec 8)) (M : DiskM) : Prop :=
  ∃ v3, p_RefD base W g vs v3 (M.wrote n b) ∧ Chg (fun k => k = g ∨ vl.ownBlock = some k) w W ∧ ∀ k, v3.ownBlock = some k → vl.ownBlock = some k ∨ w.heap.size ≤ k
theorem p_wroteD_stays {base : Nat} {w W W' : World} {g : Nat} {vs vl : Value} {n : Nat} {b : List (BitVec 8)} {M : DiskM} (h : p_WroteD base w W g vs vl n b M) (k : Same W W') : p_WroteD base w W' g vs vl n b M := by
  obtain ⟨v3, h1, h2, h3⟩ := h
  exact ⟨v3, h1.below k, h2.trans (Chg.of_below (F := fun _ => False) k) (fun _ h => h.elim), h3⟩
theorem p_GrewD.wrote {base : Nat} {w W : World} {g : Nat} {vs vl v3 : Value} {n : Nat} {b : List (BitVec 8)} {M : DiskM} (h : p_GrewD base w W g vs vl v3 n b M) (hn : n < M.s.length) (hb : b.length = 32) : p_WroteD base w (W.setCell ⟨g, 1, none⟩ v3) g vs vl n b M := by
  have c := Chg.one W g 1 v3
  refine ⟨v3, ⟨h.hb, h.row.put 1 v3, own_chg h.sec c (own_apart h.sec h.row (by decide)), own_chg h.loo c (own_apart h.loo h.row (by decide)), ⟨h.ok.lo, h.ok.hi, h.ok.s, fun x hx => ?_, h.ok.f⟩⟩, h.chg.setCell (p := ⟨g, 1, none⟩) (.inl (.inl rfl)) v3, h.grow⟩
  rcases List.mem_append.1 hx with h1 | h1
  · exact h.ok.l x h1
  · rw [List.mem_singleton.1 h1]; exact ⟨hn, hb⟩
def p_WrotePost (base : Nat) (w : World) (g : Nat) (vs vl : Value) (M : DiskM) (i : Int) (b : List (BitVec 8)) : Ending → World → Prop := fun e w' =>
  if M.has i then
    if M.stuck then e = .returned (.int .i64 20) ∧ p_RefD base w' g vs vl M.fell ∧ Chg (fun k => k = g) w w'
    else e = .returned (.int .i64 0) ∧ ∃ vl', p_RefD base w' g vs vl' (M.wrote i.toNat b) ∧ Chg (fun k => k = g ∨ vl.ownBlock = some k) w w' ∧ ∀ k, vl'.ownBlock = some k → vl.ownBlock = some k ∨ w.heap.size ≤ k
  else e = .returned (.int .i64 1) ∧ Below w.heap.size w w'
set_option maxRecDepth 20000 in
set_option maxHeartbeats 800000 in
theorem p_refwrite_any (base : Nat) (w : World) (g : Nat) (vs vl : Value) (M : DiskM) (i : Int) (b : List (BitVec 8)) (h : p_RefD base w g vs vl M) (hb : b.length = 32) (hl : M.l.length ≤ 1000000000) :
    Calls Try.prog 12 #[.pointer (some ⟨g, 0, none⟩), .int .i64 i, .agg (bs b)] w (p_WrotePost base w g vs vl M i b) := by
  have hb1 := (Below.refl w.heap.size w).alloc (Nat.le_refl _) (.cells (bs b) 37)
  have H1 := Lib.hid (h.below hb1)
  by_cases hh : M.has i = true
  · by_cases hs : M.stuck = true
    · have e0 : p_WrotePost base w g vs vl M i b = fun e w' => e = .returned (.int .i64 20) ∧ p_RefD base w' g vs vl M.fell ∧ Chg (fun k => k = g) w w' := by
        funext e w'; unfold p_WrotePost; rw [if_pos hh, if_pos hs]
      rw [e0]
      have C1 := p_refhas_any base _ g vs vl M i H1.out
      have C2 := p_refthru_raw _ g vs vl M.f M.down H1.out.row H1.out.ok.f
      rw [show (M.down || M.f == 0) = true from hs] at C2
      rw [hh] at C1
      go_enter Try.func12, Try.ntmps12
      go_wp2_with fail
      refine C1.mono ?_
      rintro e w1 ⟨rfl, rfl⟩
      go_wp2_with fail
      refine C2.mono ?_
      rintro e w2 ⟨rfl, r2, c2⟩
      have H2 := Lib.hid (H1.out.next (M' := M.fell) rfl rfl H1.out.ok.fell r2 c2)
      have HC := Lib.hid ((Chg.of_below (F := fun k => k = g) hb1).trans c2 fun k hk => .inl hk)
      clear C1 C2 r2 c2
      go_wp2_with fail
      go_ret
      exact ⟨rfl, H2.out, HC.out⟩
    · have hs' : M.stuck = false := by simpa using hs
      have e0 : p_WrotePost base w g vs vl M i b = fun e w' => e = .returned (.int .i64 0) ∧ ∃ vl', p_RefD base w' g vs vl' (M.wrote i.toNat b) ∧ Chg (fun k => k = g ∨ vl.ownBlock = some k) w w' ∧ ∀ k, vl'.ownBlock = some k → vl.ownBlock = some k ∨ w.heap.size ≤ k := by
        funext e w'; unfold p_WrotePost; rw [if_pos hh, if_neg hs]
      rw [e0]
      have C1 := p_refhas_any base _ g vs vl M i H1.out
      have C2 := p_refthru_raw _ g vs vl M.f M.down H1.out.row H1.out.ok.f
      rw [show (M.down || M.f == 0) = false from hs'] at C2
      rw [hh] at C1
      obtain ⟨n, rfl, hn⟩ : ∃ n : Nat, i = (n : Int) ∧ n < M.s.length := by
        unfold DiskM.has at hh
        simp only [Bool.and_eq_true, decide_eq_true_eq] at hh
        exact ⟨i.toNat, by omega, by omega⟩
      have HB := Lib.hid hb
      have HDN : Hid (M.down = false) := Lib.hid (by unfold DiskM.stuck at hs'; exact (Bool.or_eq_false_iff.1 hs').1)
      clear e0 hh hs hs'
      go_enter Try.func12, Try.ntmps12
      go_wp2_with fail
      refine C1.mono ?_
      rintro e w1 ⟨rfl, rfl⟩
      go_wp2_with fail
      refine C2.mono ?_
      rintro e w2 ⟨rfl, r2, c2⟩
      have r2' : Row w2 g 62 #[vs, vl, .int .i64 M.burnt.f, .bool M.burnt.down] := by rw [show M.burnt.down = false from HDN.out]; exact r2
      have H2 := Lib.hid (H1.out.next (M' := M.burnt) rfl rfl H1.out.ok.burnt r2' c2)
      have HC := Lib.hid ((Chg.of_below (F := fun k => k = g) hb1).trans c2 fun k hk => .inl hk)
      have RB := Lib.hid ((Row.fresh w 37 (bs b)).chg c2 (by have := h.row.lt; omega))
      clear C1 C2 r2 r2' c2 h hb H1
      go_wp2_with fail
      have hF0 : Wl [fun W => p_RefD base W g vs vl M.burnt ∧ Row W w.heap.size 37 (bs b) ∧ w.heap.size < W.heap.size ∧ Chg (fun k => k = g) w W, fun _ => True, fun W => p_WroteD base w W g vs vl n b M] 0 w2.drew := ⟨H2.out.below (Below.refl _ _).drew, RB.out, RB.out.lt, HC.out.drew⟩
      refine wp_region_phs [is (.pointer (some ⟨g, 0, none⟩)), is (.pointer (some ⟨g, 0, none⟩)), is (.pointer (some ⟨g, 0, none⟩)), is (.pointer (some ⟨g, 1, none⟩)), is (vl), is (.int .i64 (n : Int)), is (.agg (bs b)), is (.agg (wcell (n, b)).toArray), (elit 65 (wcell (n, b))), (fun v W => p_GrewD base w W g vs vl v n b M), is (.pointer (some ⟨g, 0, none⟩)), is (.pointer (some ⟨g, 1, none⟩)), anyV] [true, true, true, true, true, true, true, true, false, false, true, true, true] [(fun W => p_RefD base W g vs vl M.burnt ∧ Row W w.heap.size 37 (bs b) ∧ w.heap.size < W.heap.size ∧ Chg (fun k => k = g) w W), (fun _ => True), (fun W => p_WroteD base w W g vs vl n b M)] [false, false, false, false, false, false, false, false, false, true, false, false, true] [none, some 0, some 0, some 0, some 0, some 0, some 0, some 0, some 0, some 0, some 1, some 1, some 1] [some 14, some 15, some 16, some 17, some 18, some 19, some 20, some 21, some 22, some 23, some 24, some 25, none] 13 2 (fun _ => true) rfl rfl (by kernel_rfl) (by kernel_rfl) (by kernel_rfl) (by kernel_rfl) ?_ ?_ ?_ ?_ ?_ ?_
      · repeat first | exact wok_nil | refine wok_cons (by first | exact fun _ _ h k => p_f0_stays h k | exact fun _ _ h _ => h | exact fun _ _ h k => p_wroteD_stays h k) ?_
      · repeat first | exact vok_nil | refine vok_rig (by first | exact fun _ _ _ h => h) ?_ | refine vok_soft (by first | exact fun _ _ _ h _ => h | exact fun _ _ _ h k => elit_stays h k | exact fun _ _ _ h k => p_grewD_stays h k) ?_
      · exact hF0
      · repeat first | exact all_end (by decide) | refine all_cons (by first | exact rfl | exact ⟨rfl, fun _ _ h => h⟩) ?_
      · refine allp_pure rfl rfl (fun a x W hout hin => ?_) ?_
        · have e0 : a.tmps[0]? = some (.pointer (some ⟨g, 0, none⟩)) := (hout 0 (by kernel_rfl)).trans rfl
          exact does_move rfl e0 ⟨rfl, rfl⟩
        refine allp_mild 0 rfl rfl rfl (fun a x W hout hin hP => ?_) ?_
        · have e0 : a.tmps[0]? = some (.pointer (some ⟨g, 0, none⟩)) := (hout 0 (by kernel_rfl)).trans rfl
          exact does_move rfl e0 ⟨Same.refl _, rfl⟩
        refine allp_mild 0 rfl rfl rfl (fun a x W hout hin hP => ?_) ?_
        · have e15 := hin.is 1 15 (by kernel_rfl) (by decide) (by kernel_rfl) (by kernel_rfl) _ rfl
          clear hin hout
          intro K Q hK
          go_simp
          exact hK _ _ ⟨Same.refl _, rfl⟩
        refine allp_mild 0 rfl rfl rfl (fun a x W hout hin hP => ?_) ?_
        · have e16 := hin.is 2 16 (by kernel_rfl) (by decide) (by kernel_rfl) (by kernel_rfl) _ rfl
          clear hin hout
          intro K Q hK
          go_simp
          exact hK _ _ ⟨Same.refl _, rfl⟩
        refine allp_mild 0 rfl rfl rfl (fun a x W hout hin hP => ?_) ?_
        · have e17 := hin.is 3 17 (by kernel_rfl) (by decide) (by kernel_rfl) (by kernel_rfl) _ rfl
          have hc : W.cell? ⟨g, 1, none⟩ = some vl := hP.1.row.get rfl
          clear hP
          clear hin hout
          intro K Q hK
          go_simp
          exact hK _ _ ⟨Same.refl _, rfl⟩
        refine allp_mild 0 rfl rfl rfl (fun a x W hout hin hP => ?_) ?_
        · have e1 : a.tmps[1]? = some (.int .i64 (n : Int)) := (hout 1 (by kernel_rfl)).trans rfl
          exact does_move rfl e1 ⟨Same.refl _, rfl⟩
        refine allp_mild 0 rfl rfl rfl (fun a x W hout hin hP => ?_) ?_
        · have e5 : a.tmps[5]? = some (.pointer (some ⟨w.heap.size, 0, none⟩)) := (hout 5 (by kernel_rfl)).trans rfl
          clear hin hout
          intro K Q hK
          refine wp_load_mid 37 (.tmp 5) rfl w.heap.size 0 (eval_of_get e5) (bs b).toList _ (row_range hP.2.1 (Below.refl W.heap.size W) hP.2.1.lt) Try.underlying37 rfl (by rw [len_bs, HB.out]; exact size_blk) ?_
          exact hK _ _ ⟨Same.refl _, by simp [Vs, is]⟩
        refine allp_mild 0 rfl rfl rfl (fun a x W hout hin hP => ?_) ?_
        · have e19 := hin.is 5 19 (by kernel_rfl) (by decide) (by kernel_rfl) (by kernel_rfl) _ rfl
          have e20 := hin.is 6 20 (by kernel_rfl) (by decide) (by kernel_rfl) (by kernel_rfl) _ rfl
          clear hin hout
          intro K Q hK
          refine wp_buildStruct 65 _ rfl p_places_write [.int .i64 (n : Int), .agg (bs b)] ?_ (by rw [show ([Value.int .i64 (n : Int), .agg (bs b)].map (·.cells.size)) = [1, 32] by simp [Value.cells, size_bs, HB.out]]; rfl) (by simp [Value.cells, size_bs, HB.out]) ?_
          · simp only [List.map_toArray, List.map_cons, List.map_nil, eval_of_get e19, eval_of_get e20]; rfl
          · exact hK _ _ ⟨Same.refl _, wcell_eq n b⟩
        refine allp_mild 0 rfl rfl rfl (fun a x W hout hin hP => ?_) ?_
        · have e21 := hin.is 7 21 (by kernel_rfl) (by decide) (by kernel_rfl) (by kernel_rfl) _ rfl
          clear hin hout hP
          intro K Q hK
          refine wp_buildOne 60 65 (.tmp 21) rfl (wcell (n, b)).toArray _ 33 (eval_of_get e21) Try.underlying60 p_info_write2 (by rw [List.size_toArray, length_wcell _ HB.out]) (by decide) (by decide) ?_
          exact hK _ _ ⟨Same.alloc _ _, elit_new W _ _⟩
        refine allp_wild 0 rfl rfl rfl (fun a x W hout hin hP => ?_) ?_
        · have e18 := hin.is 4 18 (by kernel_rfl) (by decide) (by kernel_rfl) (by kernel_rfl) _ rfl
          obtain ⟨v22, e22, hv22⟩ := hin.get 8 22 (by kernel_rfl) (by decide) (by kernel_rfl) (.inr ⟨rfl, by kernel_rfl⟩)
          clear hout
          intro K Q hK
          obtain ⟨g8, fr8, rfl, hg8⟩ := hv22
          obtain ⟨H3, _, _, HC⟩ := hP
          refine wp_append_where (.tmp 18) (.tmp 22) 60 rfl base 65 33 40 _ Try.underlying60 p_info_write rfl (by decide) vl _ _ (eval_of_get e18) H3.loo ⟨g8, 0, none⟩ 1 1 (wcell (n, b)) (eval_of_get e22) (by rw [length_wcell _ HB.out]) (fun j u hu => by rw [Addr.add_mid, Nat.zero_add, cell_of_row W g8 j _ _ _ hg8]; simpa using hu) (one_wcell _) (by simp only [DiskM.burnt]; unfold maxLen; omega) (by simp only [DiskM.burnt]; omega) (Nat.le_trans H3.hb (Nat.le_of_lt H3.row.lt)) ?_
          intro v3 w3 own3 hg3 hw3
          exact hK _ _ ⟨trivial, p_grewD_intro H3 own3 hg3 hw3 HC⟩
        refine allp_mild 1 rfl rfl rfl (fun a x W hout hin hP => ?_) ?_
        · have e14 := hin.is 0 14 (by kernel_rfl) (by decide) (by kernel_rfl) (by kernel_rfl) _ rfl
          clear hin hout
          intro K Q hK
          go_simp
          exact hK _ _ ⟨Same.refl _, rfl⟩
        refine allp_mild 1 rfl rfl rfl (fun a x W hout hin hP => ?_) ?_
        · have e24 := hin.is 10 24 (by kernel_rfl) (by decide) (by kernel_rfl) (by kernel_rfl) _ rfl
          clear hin hout
          intro K Q hK
          go_simp
          exact hK _ _ ⟨Same.refl _, rfl⟩
        refine allp_wild 1 rfl rfl rfl (fun a x W hout hin hP => ?_) ?_
        · have e25 := hin.is 11 25 (by kernel_rfl) (by decide) (by kernel_rfl) (by kernel_rfl) _ rfl
          obtain ⟨v23, e23, hv23⟩ := hin.get 9 23 (by kernel_rfl) (by decide) (by kernel_rfl) (.inr ⟨rfl, by kernel_rfl⟩)
          obtain ⟨A3, c3, rfl, _⟩ := own_slice_form hv23.loo
          have k1 := hv23.k1
          have f1 := hv23.f1
          have HW := Lib.hid (hv23.wrote hn HB.out)
          clear hv23
          clear hin hout
          intro K Q hK
          go_simp
          exact hK undef _ ⟨HW.out, trivial⟩
        exact all_end (by decide)
      · intro x W hP hV
        clear hV
        have HP := Lib.hid hP
        clear hP
        simp only [putL, Act.put, List.setIfInBounds_toArray, List.set_cons_succ, List.set_cons_zero]
        refine wpAnyH_done (by kernel_rfl) ?_ _
        go_wp2_with fail
        go_ret
        obtain ⟨v3, HF, HC2, HE⟩ : p_WroteD base w W g vs vl n b M := HP.out
        rw [Int.toNat_natCast]
        exact ⟨rfl, v3, HF, HC2, HE⟩
  · have hh' : M.has i = false := by simpa using hh
    have e0 : p_WrotePost base w g vs vl M i b = fun e w' => e = .returned (.int .i64 1) ∧ Below w.heap.size w w' := by
      funext e w'; unfold p_WrotePost; rw [if_neg hh]
    rw [e0]
    have C1 := p_refhas_any base _ g vs vl M i H1.out
    rw [hh'] at C1
    go_enter Try.func12, Try.ntmps12
    go_wp2_with fail
    refine C1.mono ?_
    rintro e w1 ⟨rfl, rfl⟩
    go_wp2_with fail
    go_ret
    exact ⟨rfl, hb1⟩
end Go.Proofs.Yteehpdeeaebliaa
