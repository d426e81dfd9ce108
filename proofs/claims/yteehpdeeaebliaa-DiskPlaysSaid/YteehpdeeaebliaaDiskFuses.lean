/- The statement DiskFuses: its walk. -/
import Derived.Test.YteehpdeeaebliaaDiskReads
namespace Go.Proofs.Yteehpdeeaebliaa
open Go Go.RowKit
theorem StepAt'.still {w w' : World} {b o : Nat} {x : StepD} (h : StepAt' w b o x) (hb : Below w.heap.size w w') : StepAt' w' b o x := by
  have hl : b < w.heap.size := World.block_lt_of_cell? w _ h.i
  obtain ⟨u, hu, hI⟩ := h.keep
  exact ⟨(hb.cell (p := ⟨b, o, none⟩) hl).trans h.kind, (hb.cell (p := ⟨b, o + 1, none⟩) hl).trans h.i, (hb.cell (p := ⟨b, o + 2, none⟩) hl).trans h.v, ⟨u, (hb.cell (p := ⟨b, o + 3, none⟩) hl).trans hu, hI.below hb (Nat.le_refl _)⟩, h.wk, h.wi⟩
theorem few_of {a : Nat} (h : a ≤ 2000) : a ≤ few := by unfold few; omega
structure FusRel (D : DiskOps) (base : Nat) (p : Value) (K k d : Nat) (w wr : World) (M : DiskM) (F : Nat → Prop) : Prop where
  at_ : D.A base wr p M F
  len : M.s.length = 5
  few : M.l.length ≤ k
  f : M.f = (K : Int) - (d : Int)
  dk : d ≤ K
  down : M.down = true → d = K
  below : Below base w wr
  bse : base ≤ wr.heap.size
section
variable {D : DiskOps} {base K k d : Nat} {p : Value} {w wr wr' : World} {M : DiskM} {F : Nat → Prop}
theorem FusRel.still (h : FusRel D base p K k d w wr M F) (hb : Below wr.heap.size wr wr') : FusRel D base p K k d w wr' M F := ⟨D.still h.at_ hb, h.len, h.few, h.f, h.dk, h.down, h.below.trans (hb.mono h.bse), Nat.le_trans h.bse hb.size⟩
theorem FusRel.more (h : FusRel D base p K k d w wr M F) : FusRel D base p K (k + 1) d w wr M F := ⟨h.at_, h.len, Nat.le_succ_of_le h.few, h.f, h.dk, h.down, h.below, h.bse⟩
theorem FusRel.free (h : FusRel D base p K k d w wr M F) (hd : d < K) : M.down = false ∧ M.stuck = false := by
  have h1 : M.down = false := by cases hd' : M.down with
    | false => rfl
    | true => have := h.down hd'; omega
  refine ⟨h1, ?_⟩
  unfold DiskM.stuck
  rw [h1, h.f, Bool.false_or]
  exact beq_eq_false_iff_ne.2 (by omega)
theorem FusRel.held (h : FusRel D base p K k d w wr M F) (hd : ¬ d < K) : M.stuck = true := by
  have := h.dk
  unfold DiskM.stuck
  rw [h.f, show ((K : Int) - (d : Int)) = 0 by omega]
  exact Bool.or_true _
theorem FusRel.acted (h : FusRel D base p K k d w wr M F) {M' : DiskM} {F' : Nat → Prop} {d' : Nat} (hA : D.A base wr' p M' F') (hC : Chg F wr wr') (hs : M'.s.length = 5) (hl : M'.l.length ≤ k + 1) (hf : M'.f = (K : Int) - (d' : Int)) (hd : d' ≤ K) (hdn : M'.down = true → d' = K) : FusRel D base p K (k + 1) d' w wr' M' F' :=
  ⟨hA, hs, hl, hf, hd, hdn, h.below.trans (acts_below (D.lt h.at_) hC h.bse), Nat.le_trans h.bse hC.size⟩
theorem FusRel.burnt (h : FusRel D base p K k d w wr M F) (hd : d < K) : M.burnt.f = (K : Int) - ((d + 1 : Nat) : Int) := by
  unfold DiskM.burnt; rw [h.f]; dsimp only; rw [if_pos (by omega)]; omega
def Next (D : DiskOps) (base : Nat) (p : Value) (K k d : Nat) (w : World) (dn : Bool) (r : Int) : Ending → World → Prop := fun e w' => e = .returned (.int .i64 r) ∧ ∃ M' F', FusRel D base p K k d w w' M' F' ∧ M'.down = dn
theorem fus_stays {dn : Bool} (h : ∃ M' F', FusRel D base p K k d w wr M' F' ∧ M'.down = dn) (hb : Below wr.heap.size wr wr') : ∃ M' F', FusRel D base p K k d w wr' M' F' ∧ M'.down = dn := by
  obtain ⟨M', F', h1, h2⟩ := h
  exact ⟨M', F', h1.still hb, h2⟩
theorem FusRel.has (h : FusRel D base p K k d w wr M F) {j : Nat} (hj : j < 5) : M.has (j : Int) = true := by
  unfold DiskM.has; rw [h.len, decide_eq_true (by omega), decide_eq_true (by omega)]; rfl
theorem FusRel.write_ok (h : FusRel D base p K k d w wr M F) {j : Nat} (b : List (BitVec 8)) (hb : b.length = 32) (hj : j < 5) (hd : d < K) (hk : k ≤ 1000) : Calls Try.prog 12 #[p, .int .i64 (j : Int), .agg (bs b)] wr (Next D base p K (k + 1) (d + 1) w false 0) := by
  obtain ⟨h1, h2⟩ := h.free hd
  have e : M.wRes (j : Int) b = (0, M.wrote j b) := by unfold DiskM.wRes; rw [h.has hj, h2]; rfl
  refine (D.write' (j : Int) b h.at_ hb (few_of (by have := h.few; omega)) (by omega) (M.wrote j b) 0 (by rw [e]) (by rw [e])).mono ?_
  rintro e w' ⟨rfl, F', hA, hC, _⟩
  exact ⟨rfl, _, _, h.acted hA hC h.len (by show (M.l ++ [(j, b)]).length ≤ k + 1; rw [List.length_append]; exact Nat.add_le_add h.few (Nat.le_refl 1)) (h.burnt hd) hd (fun hx => by rw [show (M.wrote j b).down = M.down from rfl, h1] at hx; cases hx), h1⟩
theorem FusRel.write_down (h : FusRel D base p K k d w wr M F) {j : Nat} (b : List (BitVec 8)) (hb : b.length = 32) (hj : j < 5) (hd : ¬ d < K) (hk : k ≤ 1000) : Calls Try.prog 12 #[p, .int .i64 (j : Int), .agg (bs b)] wr (Next D base p K (k + 1) d w true 20) := by
  have e : M.wRes (j : Int) b = (20, M.fell) := by unfold DiskM.wRes; rw [h.has hj, h.held hd]; rfl
  have := h.dk
  refine (D.write' (j : Int) b h.at_ hb (few_of (by have := h.few; omega)) (by omega) M.fell 20 (by rw [e]) (by rw [e])).mono ?_
  rintro e w' ⟨rfl, F', hA, hC, _⟩
  exact ⟨rfl, _, _, h.acted hA hC h.len (Nat.le_succ_of_le h.few) h.f h.dk (fun _ => by omega), rfl⟩
theorem FusRel.flush_ok (h : FusRel D base p K k d w wr M F) (hd : d < K) (hk : k ≤ 1000) : Calls Try.prog 17 #[p] wr (Next D base p K (k + 1) (d + 1) w false 0) := by
  obtain ⟨h1, h2⟩ := h.free hd
  have e : M.fRes = (0, M.flushed) := by unfold DiskM.fRes; rw [h2]; rfl
  refine (D.flush' h.at_ (few_of (by have := h.few; omega)) M.flushed 0 (by rw [e]) (by rw [e])).mono ?_
  rintro e w' ⟨rfl, F', hA, hC, _⟩
  exact ⟨rfl, _, _, h.acted hA hC (by show (DiskM.put M.s M.l).length = 5; rw [DiskM.length_put]; exact h.len) (Nat.zero_le _) (h.burnt hd) hd (fun hx => by rw [show M.flushed.down = M.down from rfl, h1] at hx; cases hx), h1⟩
theorem FusRel.flush_down (h : FusRel D base p K k d w wr M F) (hd : ¬ d < K) (hk : k ≤ 1000) : Calls Try.prog 17 #[p] wr (Next D base p K (k + 1) d w true 20) := by
  have e : M.fRes = (20, M.fell) := by unfold DiskM.fRes; rw [h.held hd]; rfl
  have := h.dk
  refine (D.flush' h.at_ (few_of (by have := h.few; omega)) M.fell 20 (by rw [e]) (by rw [e])).mono ?_
  rintro e w' ⟨rfl, F', hA, hC, _⟩
  exact ⟨rfl, _, _, h.acted hA hC h.len (Nat.le_succ_of_le h.few) h.f h.dk (fun _ => by omega), rfl⟩
theorem FusRel.read_up (h : FusRel D base p K k d w wr M F) (hdn : M.down = false) : M.rRes 0 = (M.now 0, 0) := by
  unfold DiskM.rRes; rw [show M.has 0 = true from h.has (j := 0) (by omega), hdn]; rfl
theorem FusRel.read_down (h : FusRel D base p K k d w wr M F) (hdn : M.down = true) : M.rRes 0 = (blk 0#8, 20) := by
  unfold DiskM.rRes; rw [show M.has 0 = true from h.has (j := 0) (by omega), hdn]; rfl
theorem now_length {M : DiskM} (h : M.Ok) {i : Nat} (hi : i < M.s.length) : (M.now i).length = 32 := by
  have := now_len h i hi M.l.length; rw [List.take_length] at this; exact this
end
theorem mod30 (n : Int) (h0 : 0 ≤ n) : ∃ K : Nat, n.tmod 30 = (K : Int) ∧ K < 30 := ⟨(n.tmod 30).toNat, by
  rw [Int.tmod_eq_emod_of_nonneg h0]; omega, by rw [Int.tmod_eq_emod_of_nonneg h0]; omega⟩
set_option maxRecDepth 20000 in
set_option maxHeartbeats 3200000 in
theorem fuses_walk (D : DiskOps) (m : Int) (A : Option Addr) (n c : Nat) (l : List StepD) (w : World) (wm : (Lit.int .u8 m).wf = true) (h : rdSl 4 rdStep w [.slice A n c] l) :
    Calls Try.prog 5 #[.int .u8 m, .slice A n c] w fun e w' => e = .returned (.bool true) ∧ Below w.heap.size w w' := by
  have hb8 := Go.bounds_u8 wm
  obtain ⟨K, hK30, hK⟩ := mod30 m hb8.1
  have hwrap : IntKind.i64.wrap m = m := i64_id m hb8.1 (by omega)
  have H := Lib.hid h
  have HN : Hid (l.length = n) := Lib.hid (by obtain ⟨_, _, h1, _⟩ := h; injection h1 with h1 _; injection h1 with _ h1 _; exact h1.symm)
  have C0 := D.new w.heap.size w 5 (Nat.le_refl _) (by decide)
  rw [makes_yes _ _ _ _ (by decide)] at C0
  clear h
  go_enter Try.func5, Try.ntmps5
  go_wp2_with fail
  refine C0.mono ?_
  rintro e w1 ⟨g, F, rfl, hA, hb1, hF⟩
  have HA := Lib.hid hA
  have H1 := Lib.hid (stays_steps w.heap.size w w1 _ _ H.out hb1 (Nat.le_refl _))
  clear C0 hA hF
  go_wp2_with fail
  refine (fairD_any w1 A n c l H1.out).mono ?_
  rintro e w2 ⟨b, rfl, hb, rfl⟩
  cases b with
  | false =>
    go_wp2_with fail
    refine (dwakes_any D w1).mono ?_
    rintro e w2 ⟨rfl, hb2⟩
    go_wp2_with fail
    go_ret
    exact ⟨rfl, hb1.trans (hb2.mono hb1.size)⟩
  | true =>
    obtain ⟨hn, _⟩ := hb rfl
    rw [HN.out] at hn
    have CF := D.fuse _ _ _ _ _ (K : Int) HA.out (by omega)
    have HLT := Lib.hid (D.lt HA.out)
    have HK30 := Lib.hid hK30
    clear hb
    go_wp2_with fail
    refine CF.mono ?_
    rintro e w2 ⟨rfl, F2, hA2, hC2, _⟩
    have R0 : Hid (FusRel D w.heap.size (.pointer (some ⟨g, 0, none⟩)) K 0 0 w w2 ((DiskM.new 5).fused K) F2) := Lib.hid ⟨hA2, rfl, Nat.le_refl _, (by show (K : Int) = (K : Int) - ((0 : Nat) : Int); omega), by omega, fun h => (by cases h), hb1.trans (acts_below HLT.out hC2 hb1.size), Nat.le_trans hb1.size hC2.size⟩
    clear CF hA2 hC2 HLT HA hK30 hwrap
    go_wp2_with fail
    go_loopw [8, 9] (fun dd i wr => ∃ k d : Nat, k ≤ n ∧ i = .int .i64 k ∧ dd = .int .i64 d ∧ ∃ M F, FusRel D w.heap.size (.pointer (some ⟨g, 0, none⟩)) K k d w wr M F) (fun _ i _ => n - (intOf i).toNat)
    case atStart => exact ⟨0, 0, by omega, rfl, rfl, _, _, R0.out⟩
    case round =>
      obtain ⟨k, d, hk, rfl, rfl, M, F, hR⟩ := hrel
      have HR := Lib.hid hR
      have H2 := Lib.hid (stays_steps w.heap.size w wr _ _ H.out hR.below (Nat.le_refl _))
      have hdk := hR.dk
      clear R0 hR
      by_cases hlt : k < n
      · have hkl : k < l.length := by rw [HN.out]; exact hlt
        obtain ⟨x, hx⟩ : ∃ x, l[k]? = some x := ⟨_, List.getElem?_eq_getElem hkl⟩
        obtain ⟨b, o, rfl, _, hs⟩ := steps_at H2.out hx
        have HS2 := Lib.hid hs
        have ck := hs.kind
        have hk0 : (0 : Int) ≤ (k : Int) := by omega
        have hk1 : (k : Int) < (n : Int) := by omega
        have HK5 : Hid (k ≤ 1000) := Lib.hid (by omega)
        clear hs hx hkl H1
        by_cases hkind0 : x.kind = 0
        · have hd0 : (x.kind == 0) = true := by rw [hkind0]; rfl
          have hj := modK_lt x.i 5 (by decide)
          obtain ⟨j, hjj⟩ : ∃ j, modK x.i 5 = j := ⟨_, rfl⟩
          have HJ := Lib.hid hjj
          rw [hjj] at hj
          have HJ5 := Lib.hid hj
          clear hkind0 hjj hj
          by_cases hdK : d < K
          · have HD5 := Lib.hid hdK
            go_wp2_with fail
            have hF0 : Wl [fun W => FusRel D w.heap.size (.pointer (some ⟨g, 0, none⟩)) K k d w W M F ∧ StepAt' W b (o + k * 4) x, fun W => ∃ M' F', FusRel D w.heap.size (.pointer (some ⟨g, 0, none⟩)) K (k + 1) (d + 1) w W M' F' ∧ M'.down = false] 0 wr.drew := ⟨HR.out.still (Below.refl _ _).drew, HS2.out.still (Below.refl _ _).drew⟩
            refine wp_region_phs [is (.pointer (some ⟨g, 0, none⟩)), is (.slice (some ⟨b, o, none⟩) n c), is (.int .i64 (k : Int)), is (.pointer (some ⟨b, o + k * 4, none⟩)), is (.pointer (some ⟨b, o + k * 4 + 1, none⟩)), is (.int .i64 x.i), is (.int .i64 (j : Int)), is (.slice (some ⟨b, o, none⟩) n c), is (.int .i64 (k : Int)), is (.pointer (some ⟨b, o + k * 4, none⟩)), is (.pointer (some ⟨b, o + k * 4 + 2, none⟩)), is (.int .u8 (bd x.v)), is (.agg (bs (blk x.v))), is (.int .i64 0), is (.int .i64 0)] [true, true, true, true, true, true, true, true, true, true, true, true, true, true, true] [(fun W => FusRel D w.heap.size (.pointer (some ⟨g, 0, none⟩)) K k d w W M F ∧ StepAt' W b (o + k * 4) x), (fun W => ∃ M' F', FusRel D w.heap.size (.pointer (some ⟨g, 0, none⟩)) K (k + 1) (d + 1) w W M' F' ∧ M'.down = false)] [false, false, false, false, false, false, false, false, false, false, false, false, false, true, false] [some 0, some 0, some 0, some 0, some 0, some 0, some 0, some 0, some 0, some 0, some 0, some 0, some 0, some 0, some 1] [some 77, some 78, some 79, some 80, some 81, some 82, some 83, some 84, some 85, some 86, some 87, some 88, some 89, some 90, some 10] 15 1 (fun _ => true) rfl rfl (by kernel_rfl) (by kernel_rfl) (by kernel_rfl) (by kernel_rfl) ?_ ?_ ?_ ?_ ?_ ?_
            · repeat first | exact wok_nil | refine wok_cons (by first | exact fun _ _ h k => ⟨h.1.still k, h.2.still k⟩ | exact fun _ _ h k => fus_stays h k) ?_
            · repeat first | exact vok_nil | refine vok_rig (by first | exact fun _ _ _ h => h) ?_ | refine vok_soft (by first | exact fun _ _ _ h _ => h) ?_
            · exact hF0
            · repeat first | exact all_end (by decide) | refine all_cons (by first | exact rfl | exact ⟨rfl, fun _ _ h => h⟩) ?_
            · refine allp_mild 0 rfl rfl rfl (fun a x_ W hout hin hP => ?_) ?_
              · have e5 : a.tmps[5]? = some (.pointer (some ⟨g, 0, none⟩)) := (hout 5 (by kernel_rfl)).trans rfl
                exact does_move rfl e5 ⟨Same.refl _, rfl⟩
              refine allp_mild 0 rfl rfl rfl (fun a x_ W hout hin hP => ?_) ?_
              · have e1 : a.tmps[1]? = some (.slice (some ⟨b, o, none⟩) n c) := (hout 1 (by kernel_rfl)).trans rfl
                exact does_move rfl e1 ⟨Same.refl _, rfl⟩
              refine allp_mild 0 rfl rfl rfl (fun a x_ W hout hin hP => ?_) ?_
              · have e9 : a.tmps[9]? = some (.int .i64 (k : Int)) := (hout 9 (by kernel_rfl)).trans rfl
                exact does_move rfl e9 ⟨Same.refl _, rfl⟩
              refine allp_mild 0 rfl rfl rfl (fun a x_ W hout hin hP => ?_) ?_
              · have e78 := hin.is 1 78 (by kernel_rfl) (by decide) (by kernel_rfl) (by kernel_rfl) _ rfl
                have e79 := hin.is 2 79 (by kernel_rfl) (by decide) (by kernel_rfl) (by kernel_rfl) _ rfl
                clear hin hout
                intro K Q hK
                go_simp
                exact hK _ _ ⟨Same.refl _, rfl⟩
              refine allp_mild 0 rfl rfl rfl (fun a x_ W hout hin hP => ?_) ?_
              · have e80 := hin.is 3 80 (by kernel_rfl) (by decide) (by kernel_rfl) (by kernel_rfl) _ rfl
                clear hin hout
                intro K Q hK
                go_simp
                exact hK _ _ ⟨Same.refl _, rfl⟩
              refine allp_mild 0 rfl rfl rfl (fun a x_ W hout hin hP => ?_) ?_
              · have e81 := hin.is 4 81 (by kernel_rfl) (by decide) (by kernel_rfl) (by kernel_rfl) _ rfl
                have hc := hP.2.i
                clear hP
                clear hin hout
                intro K0 Q hK
                go_simp
                exact hK _ _ ⟨Same.refl _, rfl⟩
              refine allp_mild 0 rfl rfl rfl (fun a x_ W hout hin hP => ?_) ?_
              · have e82 := hin.is 5 82 (by kernel_rfl) (by decide) (by kernel_rfl) (by kernel_rfl) _ rfl
                clear hP
                clear hin hout
                intro K0 Q hK
                go_simp
                have C := mod_at x.i 5 5 W rfl (by decide) (by decide)
                rw [HJ.out] at C
                refine C.mono ?_
                rintro e W' ⟨rfl, rfl⟩
                exact hK _ _ ⟨Same.refl _, rfl⟩
              refine allp_mild 0 rfl rfl rfl (fun a x_ W hout hin hP => ?_) ?_
              · have e1 : a.tmps[1]? = some (.slice (some ⟨b, o, none⟩) n c) := (hout 1 (by kernel_rfl)).trans rfl
                exact does_move rfl e1 ⟨Same.refl _, rfl⟩
              refine allp_mild 0 rfl rfl rfl (fun a x_ W hout hin hP => ?_) ?_
              · have e9 : a.tmps[9]? = some (.int .i64 (k : Int)) := (hout 9 (by kernel_rfl)).trans rfl
                exact does_move rfl e9 ⟨Same.refl _, rfl⟩
              refine allp_mild 0 rfl rfl rfl (fun a x_ W hout hin hP => ?_) ?_
              · have e84 := hin.is 7 84 (by kernel_rfl) (by decide) (by kernel_rfl) (by kernel_rfl) _ rfl
                have e85 := hin.is 8 85 (by kernel_rfl) (by decide) (by kernel_rfl) (by kernel_rfl) _ rfl
                clear hin hout
                intro K Q hK
                go_simp
                exact hK _ _ ⟨Same.refl _, rfl⟩
              refine allp_mild 0 rfl rfl rfl (fun a x_ W hout hin hP => ?_) ?_
              · have e86 := hin.is 9 86 (by kernel_rfl) (by decide) (by kernel_rfl) (by kernel_rfl) _ rfl
                clear hin hout
                intro K Q hK
                go_simp
                exact hK _ _ ⟨Same.refl _, rfl⟩
              refine allp_mild 0 rfl rfl rfl (fun a x_ W hout hin hP => ?_) ?_
              · have e87 := hin.is 10 87 (by kernel_rfl) (by decide) (by kernel_rfl) (by kernel_rfl) _ rfl
                have hc := hP.2.v
                clear hP
                clear hin hout
                intro K0 Q hK
                go_simp
                exact hK _ _ ⟨Same.refl _, rfl⟩
              refine allp_mild 0 rfl rfl rfl (fun a x_ W hout hin hP => ?_) ?_
              · have e88 := hin.is 11 88 (by kernel_rfl) (by decide) (by kernel_rfl) (by kernel_rfl) _ rfl
                clear hP
                clear hin hout
                intro K0 Q hK
                go_simp
                refine (fill_any x.v W).mono ?_
                rintro e W' ⟨rfl, hb⟩
                exact hK _ _ ⟨hb, rfl⟩
              refine allp_wild 0 rfl rfl rfl (fun a x_ W hout hin hP => ?_) ?_
              · have e77 := hin.is 0 77 (by kernel_rfl) (by decide) (by kernel_rfl) (by kernel_rfl) _ rfl
                have e83 := hin.is 6 83 (by kernel_rfl) (by decide) (by kernel_rfl) (by kernel_rfl) _ rfl
                have e89 := hin.is 12 89 (by kernel_rfl) (by decide) (by kernel_rfl) (by kernel_rfl) _ rfl
                have hR := hP.1
                clear hP
                clear hin hout
                intro K0 Q hK
                go_simp
                refine (hR.write_ok (j := j) (blk x.v) (length_blk _) HJ5.out HD5.out HK5.out).mono ?_
                rintro e W' ⟨rfl, hF⟩
                exact hK _ _ ⟨hF, rfl⟩
              refine allp_mild 1 rfl rfl rfl (fun a x_ W hout hin hP => ?_) ?_
              · have e90 := hin.is 13 90 (by kernel_rfl) (by decide) (by kernel_rfl) (by kernel_rfl) _ rfl
                exact does_assign rfl e90 ⟨Same.refl _, rfl⟩
              exact all_end (by decide)
            · intro x_ W hP hV
              have h14 : x_ 14 = .int .i64 0 := hV 14 (by decide) (.inl (by kernel_rfl))
              have HP := Lib.hid hP
              clear hV hP
              simp only [putL, Act.put, List.setIfInBounds_toArray, List.set_cons_succ, List.set_cons_zero, h14]
              refine wpAnyH_done (by kernel_rfl) ?_ _
              obtain ⟨M', F', hR', hdn⟩ := HP.out
              have HR' := Lib.hid hR'
              have CD := D.down _ _ _ _ _ hR'.at_
              rw [hdn] at CD
              clear HP hR' hdn h14
              go_wp2_with fail
              refine CD.mono ?_
              rintro e w3 ⟨rfl, hb3⟩
              have HR3 := Lib.hid (HR'.out.still hb3)
              clear CD HR' hb3
              go_wp2_with fail
              exact ⟨⟨k + 1, d + 1, by omega, by go_num, by go_num, _, _, HR3.out⟩, by simp [intOf]; omega⟩
          · have HD5 := Lib.hid hdK
            go_wp2_with fail
            have hF0 : Wl [fun W => FusRel D w.heap.size (.pointer (some ⟨g, 0, none⟩)) K k d w W M F ∧ StepAt' W b (o + k * 4) x, fun W => ∃ M' F', FusRel D w.heap.size (.pointer (some ⟨g, 0, none⟩)) K (k + 1) (d) w W M' F' ∧ M'.down = true] 0 wr.drew := ⟨HR.out.still (Below.refl _ _).drew, HS2.out.still (Below.refl _ _).drew⟩
            refine wp_region_phs [is (.pointer (some ⟨g, 0, none⟩)), is (.slice (some ⟨b, o, none⟩) n c), is (.int .i64 (k : Int)), is (.pointer (some ⟨b, o + k * 4, none⟩)), is (.pointer (some ⟨b, o + k * 4 + 1, none⟩)), is (.int .i64 x.i), is (.int .i64 (j : Int)), is (.slice (some ⟨b, o, none⟩) n c), is (.int .i64 (k : Int)), is (.pointer (some ⟨b, o + k * 4, none⟩)), is (.pointer (some ⟨b, o + k * 4 + 2, none⟩)), is (.int .u8 (bd x.v)), is (.agg (bs (blk x.v))), is (.int .i64 20), is (.int .i64 20)] [true, true, true, true, true, true, true, true, true, true, true, true, true, true, true] [(fun W => FusRel D w.heap.size (.pointer (some ⟨g, 0, none⟩)) K k d w W M F ∧ StepAt' W b (o + k * 4) x), (fun W => ∃ M' F', FusRel D w.heap.size (.pointer (some ⟨g, 0, none⟩)) K (k + 1) (d) w W M' F' ∧ M'.down = true)] [false, false, false, false, false, false, false, false, false, false, false, false, false, true, false] [some 0, some 0, some 0, some 0, some 0, some 0, some 0, some 0, some 0, some 0, some 0, some 0, some 0, some 0, some 1] [some 77, some 78, some 79, some 80, some 81, some 82, some 83, some 84, some 85, some 86, some 87, some 88, some 89, some 90, some 10] 15 1 (fun _ => true) rfl rfl (by kernel_rfl) (by kernel_rfl) (by kernel_rfl) (by kernel_rfl) ?_ ?_ ?_ ?_ ?_ ?_
            · repeat first | exact wok_nil | refine wok_cons (by first | exact fun _ _ h k => ⟨h.1.still k, h.2.still k⟩ | exact fun _ _ h k => fus_stays h k) ?_
            · repeat first | exact vok_nil | refine vok_rig (by first | exact fun _ _ _ h => h) ?_ | refine vok_soft (by first | exact fun _ _ _ h _ => h) ?_
            · exact hF0
            · repeat first | exact all_end (by decide) | refine all_cons (by first | exact rfl | exact ⟨rfl, fun _ _ h => h⟩) ?_
            · refine allp_mild 0 rfl rfl rfl (fun a x_ W hout hin hP => ?_) ?_
              · have e5 : a.tmps[5]? = some (.pointer (some ⟨g, 0, none⟩)) := (hout 5 (by kernel_rfl)).trans rfl
                exact does_move rfl e5 ⟨Same.refl _, rfl⟩
              refine allp_mild 0 rfl rfl rfl (fun a x_ W hout hin hP => ?_) ?_
              · have e1 : a.tmps[1]? = some (.slice (some ⟨b, o, none⟩) n c) := (hout 1 (by kernel_rfl)).trans rfl
                exact does_move rfl e1 ⟨Same.refl _, rfl⟩
              refine allp_mild 0 rfl rfl rfl (fun a x_ W hout hin hP => ?_) ?_
              · have e9 : a.tmps[9]? = some (.int .i64 (k : Int)) := (hout 9 (by kernel_rfl)).trans rfl
                exact does_move rfl e9 ⟨Same.refl _, rfl⟩
              refine allp_mild 0 rfl rfl rfl (fun a x_ W hout hin hP => ?_) ?_
              · have e78 := hin.is 1 78 (by kernel_rfl) (by decide) (by kernel_rfl) (by kernel_rfl) _ rfl
                have e79 := hin.is 2 79 (by kernel_rfl) (by decide) (by kernel_rfl) (by kernel_rfl) _ rfl
                clear hin hout
                intro K Q hK
                go_simp
                exact hK _ _ ⟨Same.refl _, rfl⟩
              refine allp_mild 0 rfl rfl rfl (fun a x_ W hout hin hP => ?_) ?_
              · have e80 := hin.is 3 80 (by kernel_rfl) (by decide) (by kernel_rfl) (by kernel_rfl) _ rfl
                clear hin hout
                intro K Q hK
                go_simp
                exact hK _ _ ⟨Same.refl _, rfl⟩
              refine allp_mild 0 rfl rfl rfl (fun a x_ W hout hin hP => ?_) ?_
              · have e81 := hin.is 4 81 (by kernel_rfl) (by decide) (by kernel_rfl) (by kernel_rfl) _ rfl
                have hc := hP.2.i
                clear hP
                clear hin hout
                intro K0 Q hK
                go_simp
                exact hK _ _ ⟨Same.refl _, rfl⟩
              refine allp_mild 0 rfl rfl rfl (fun a x_ W hout hin hP => ?_) ?_
              · have e82 := hin.is 5 82 (by kernel_rfl) (by decide) (by kernel_rfl) (by kernel_rfl) _ rfl
                clear hP
                clear hin hout
                intro K0 Q hK
                go_simp
                have C := mod_at x.i 5 5 W rfl (by decide) (by decide)
                rw [HJ.out] at C
                refine C.mono ?_
                rintro e W' ⟨rfl, rfl⟩
                exact hK _ _ ⟨Same.refl _, rfl⟩
              refine allp_mild 0 rfl rfl rfl (fun a x_ W hout hin hP => ?_) ?_
              · have e1 : a.tmps[1]? = some (.slice (some ⟨b, o, none⟩) n c) := (hout 1 (by kernel_rfl)).trans rfl
                exact does_move rfl e1 ⟨Same.refl _, rfl⟩
              refine allp_mild 0 rfl rfl rfl (fun a x_ W hout hin hP => ?_) ?_
              · have e9 : a.tmps[9]? = some (.int .i64 (k : Int)) := (hout 9 (by kernel_rfl)).trans rfl
                exact does_move rfl e9 ⟨Same.refl _, rfl⟩
              refine allp_mild 0 rfl rfl rfl (fun a x_ W hout hin hP => ?_) ?_
              · have e84 := hin.is 7 84 (by kernel_rfl) (by decide) (by kernel_rfl) (by kernel_rfl) _ rfl
                have e85 := hin.is 8 85 (by kernel_rfl) (by decide) (by kernel_rfl) (by kernel_rfl) _ rfl
                clear hin hout
                intro K Q hK
                go_simp
                exact hK _ _ ⟨Same.refl _, rfl⟩
              refine allp_mild 0 rfl rfl rfl (fun a x_ W hout hin hP => ?_) ?_
              · have e86 := hin.is 9 86 (by kernel_rfl) (by decide) (by kernel_rfl) (by kernel_rfl) _ rfl
                clear hin hout
                intro K Q hK
                go_simp
                exact hK _ _ ⟨Same.refl _, rfl⟩
              refine allp_mild 0 rfl rfl rfl (fun a x_ W hout hin hP => ?_) ?_
              · have e87 := hin.is 10 87 (by kernel_rfl) (by decide) (by kernel_rfl) (by kernel_rfl) _ rfl
                have hc := hP.2.v
                clear hP
                clear hin hout
                intro K0 Q hK
                go_simp
                exact hK _ _ ⟨Same.refl _, rfl⟩
              refine allp_mild 0 rfl rfl rfl (fun a x_ W hout hin hP => ?_) ?_
              · have e88 := hin.is 11 88 (by kernel_rfl) (by decide) (by kernel_rfl) (by kernel_rfl) _ rfl
                clear hP
                clear hin hout
                intro K0 Q hK
                go_simp
                refine (fill_any x.v W).mono ?_
                rintro e W' ⟨rfl, hb⟩
                exact hK _ _ ⟨hb, rfl⟩
              refine allp_wild 0 rfl rfl rfl (fun a x_ W hout hin hP => ?_) ?_
              · have e77 := hin.is 0 77 (by kernel_rfl) (by decide) (by kernel_rfl) (by kernel_rfl) _ rfl
                have e83 := hin.is 6 83 (by kernel_rfl) (by decide) (by kernel_rfl) (by kernel_rfl) _ rfl
                have e89 := hin.is 12 89 (by kernel_rfl) (by decide) (by kernel_rfl) (by kernel_rfl) _ rfl
                have hR := hP.1
                clear hP
                clear hin hout
                intro K0 Q hK
                go_simp
                refine (hR.write_down (j := j) (blk x.v) (length_blk _) HJ5.out HD5.out HK5.out).mono ?_
                rintro e W' ⟨rfl, hF⟩
                exact hK _ _ ⟨hF, rfl⟩
              refine allp_mild 1 rfl rfl rfl (fun a x_ W hout hin hP => ?_) ?_
              · have e90 := hin.is 13 90 (by kernel_rfl) (by decide) (by kernel_rfl) (by kernel_rfl) _ rfl
                exact does_assign rfl e90 ⟨Same.refl _, rfl⟩
              exact all_end (by decide)
            · intro x_ W hP hV
              have h14 : x_ 14 = .int .i64 20 := hV 14 (by decide) (.inl (by kernel_rfl))
              have HP := Lib.hid hP
              clear hV hP
              simp only [putL, Act.put, List.setIfInBounds_toArray, List.set_cons_succ, List.set_cons_zero, h14]
              refine wpAnyH_done (by kernel_rfl) ?_ _
              obtain ⟨M', F', hR', hdn⟩ := HP.out
              have HR' := Lib.hid hR'
              have CD := D.down _ _ _ _ _ hR'.at_
              rw [hdn] at CD
              clear HP hR' hdn h14
              go_wp2_with fail
              refine CD.mono ?_
              rintro e w3 ⟨rfl, hb3⟩
              have HR3 := Lib.hid (HR'.out.still hb3)
              clear CD HR' hb3
              go_wp2_with fail
              exact ⟨⟨k + 1, d, by omega, by go_num, by go_num, _, _, HR3.out⟩, by simp [intOf]; omega⟩
        · have hd0 : (x.kind == 0) = false := beq_eq_false_iff_ne.2 hkind0
          by_cases hkind2 : x.kind = 2
          · have hd2 : (x.kind == 2) = true := by rw [hkind2]; rfl
            clear hkind0 hkind2
            by_cases hdK : d < K
            · have HD5 := Lib.hid hdK
              have CF := HR.out.flush_ok HD5.out HK5.out
              clear HS2
              go_wp2_with fail
              refine CF.mono ?_
              rintro e w2 ⟨rfl, M', F', hR', hdn⟩
              have HR' := Lib.hid hR'
              have CD := D.down _ _ _ _ _ hR'.at_
              rw [hdn] at CD
              clear CF hR' hdn
              go_wp2_with fail
              refine CD.mono ?_
              rintro e w3 ⟨rfl, hb3⟩
              have HR3 := Lib.hid (HR'.out.still hb3)
              clear CD HR' hb3
              go_wp2_with fail
              exact ⟨⟨k + 1, d + 1, by omega, by go_num, by go_num, _, _, HR3.out⟩, by simp [intOf]; omega⟩
            · have HD5 := Lib.hid hdK
              have CF := HR.out.flush_down HD5.out HK5.out
              clear HS2
              go_wp2_with fail
              refine CF.mono ?_
              rintro e w2 ⟨rfl, M', F', hR', hdn⟩
              have HR' := Lib.hid hR'
              have CD := D.down _ _ _ _ _ hR'.at_
              rw [hdn] at CD
              clear CF hR' hdn
              go_wp2_with fail
              refine CD.mono ?_
              rintro e w3 ⟨rfl, hb3⟩
              have HR3 := Lib.hid (HR'.out.still hb3)
              clear CD HR' hb3
              go_wp2_with fail
              exact ⟨⟨k + 1, d, by omega, by go_num, by go_num, _, _, HR3.out⟩, by simp [intOf]; omega⟩
          · have hd2 : (x.kind == 2) = false := beq_eq_false_iff_ne.2 hkind2
            clear hkind0 hkind2
            cases hdn : M.down with
            | false =>
              have CR := D.read' 0 HR.out.at_ (few_of (by have := HR.out.few; omega)) (by decide) (M.now 0) 0 (HR.out.read_up hdn)
              have hb9 : (M.now 0 : List (BitVec 8)).length = 32 := now_length (D.ok HR.out.at_) (by rw [HR.out.len]; omega)
              obtain ⟨B, hB⟩ : ∃ B, (M.now 0 : List (BitVec 8)) = B := ⟨_, rfl⟩
              rw [hB] at CR hb9
              have HB := Lib.hid hb9
              clear hb9 hB HS2
              go_wp2_with fail
              refine CR.mono ?_
              rintro e w2 ⟨rfl, hb2⟩
              have HR2 := Lib.hid (HR.out.still hb2)
              have HR3 := Lib.hid (HR2.out.still (Same.alloc w2 (.cells (bs B) 37)))
              have CD := D.down _ _ _ _ _ HR3.out.at_
              rw [hdn] at CD
              clear CR hb2 HR HR2
              go_wp2_with (first | (refine wpList_store_row rfl 37 _ _ rfl w2.heap.size (bs B) rfl rfl 37 _ (Row.fresh _ _ _) (by rw [size_bs, HB.out]; exact size_blk) (by rw [size_bs, HB.out]; rfl) (one_bs _) ?_; rw [World.setRow_alloc_new]))
              refine CD.mono ?_
              rintro e w3 ⟨rfl, hb3⟩
              have HR4 := Lib.hid (HR3.out.still hb3)
              clear CD HR3 hb3
              go_wp2_with fail
              exact ⟨⟨k + 1, d, by omega, by go_num, by go_num, _, _, HR4.out.more⟩, by simp [intOf]; omega⟩
            | true =>
              have CR := D.read' 0 HR.out.at_ (few_of (by have := HR.out.few; omega)) (by decide) (blk 0#8) 20 (HR.out.read_down hdn)
              have hb9 : (blk 0#8 : List (BitVec 8)).length = 32 := length_blk _
              obtain ⟨B, hB⟩ : ∃ B, (blk 0#8 : List (BitVec 8)) = B := ⟨_, rfl⟩
              rw [hB] at CR hb9
              have HB := Lib.hid hb9
              have HZ := Lib.hid hB
              clear hb9 hB HS2
              go_wp2_with fail
              refine CR.mono ?_
              rintro e w2 ⟨rfl, hb2⟩
              have HR2 := Lib.hid (HR.out.still hb2)
              have HR3 := Lib.hid (HR2.out.still (Same.alloc w2 (.cells (bs B) 37)))
              have CD := D.down _ _ _ _ _ HR3.out.at_
              rw [hdn] at CD
              have RX := Lib.hid (Row.fresh w2 37 (bs B))
              have hz := zeros_blk
              clear CR hb2 HR HR2
              go_wp2_with (first | (refine wpList_store_row rfl 37 _ _ rfl w2.heap.size (bs B) rfl rfl 37 _ (Row.fresh _ _ _) (by rw [size_bs, HB.out]; exact size_blk) (by simp only [size_bs, HB.out, length_blk]; try rfl) (one_bs _) ?_; rw [World.setRow_alloc_new]))
              refine CD.mono ?_
              rintro e w3 ⟨rfl, hb3⟩
              have HR4 := Lib.hid (HR3.out.still hb3)
              have RX2 := Lib.hid (RX.out.call hb3)
              have rr := row_range RX2.out (Below.refl w3.heap.size w3) RX2.out.lt
              have q := eql_blk B (blk 0#8) HB.out (length_blk _) w3
              rw [decide_eq_true HZ.out.symm] at q
              clear CD HR3 hb3
              go_wp2_with (first | (refine wpList_guarded (by rfl) (fun K0 hK0 => ?_); refine wp_load_mid 37 (.tmp 11) rfl w2.heap.size 0 rfl (bs B).toList _ rr Try.underlying37 rfl (by rw [len_bs, HB.out]; exact size_blk) ?_; refine hK0 _ _ ?_; clear hK0 K0))
              exact ⟨⟨k + 1, d, by omega, by go_num, by go_num, _, _, HR4.out.more⟩, by simp [intOf]; omega⟩
      · obtain rfl : k = n := by omega
        have hfew := HR.out.few
        have CU := D.up _ _ _ _ _ _ [] HR.out.at_ (by unfold few; omega) (slice_nil wr) (Nat.zero_le _) (fun k hk => by cases hk)
        have HLT := Lib.hid (D.lt HR.out.at_)
        clear H1 H2
        go_wp2_with fail
        refine CU.mono ?_
        rintro e w2 ⟨rfl, F2, hA2, hC2, _⟩
        have hb2 := HR.out.below.trans (acts_below HLT.out hC2 HR.out.bse)
        have hbs2 := Nat.le_trans HR.out.bse hC2.size
        have HA2 := Lib.hid hA2
        have hlen : (M.upped []).s.length = 5 := by show (DiskM.put M.s _).length = 5; rw [DiskM.length_put]; exact HR.out.len
        have hhas : (M.upped []).has 0 = true := by unfold DiskM.has; rw [hlen]; rfl
        have CR := D.read' 0 hA2 (by show 0 ≤ few; unfold few; omega) (by decide) ((M.upped []).now 0) 0 (by unfold DiskM.rRes; rw [hhas]; rfl)
        have hnl := now_length (D.ok hA2) (i := 0) (by rw [hlen]; omega)
        obtain ⟨B, hB⟩ : ∃ B, (M.upped []).now 0 = B := ⟨_, rfl⟩
        rw [hB] at CR hnl
        have HB := Lib.hid hnl
        obtain ⟨Mu, hMu⟩ : ∃ Mu, M.upped [] = Mu := ⟨_, rfl⟩
        have HW : Hid (Mu.wRes 0 (blk 0#8) = (0, Mu.wrote 0 (blk 0#8))) := Lib.hid (by rw [← hMu]; unfold DiskM.wRes; rw [hhas]; rfl)
        have HDN : Hid (Mu.down = false) := Lib.hid (by rw [← hMu]; rfl)
        have HLL : Hid (Mu.l.length ≤ few) := Lib.hid (by rw [← hMu]; exact Nat.zero_le _)
        rw [hMu] at HA2
        clear CU hA2 hC2 HLT hlen hhas hnl hB hMu HR
        go_wp2_with fail
        refine CR.mono ?_
        rintro e w3 ⟨rfl, hb3⟩
        have HA4 := Lib.hid (D.still (D.still HA2.out hb3) (Same.alloc w3 (.cells (bs B) 37)))
        have hb4 := hb2.trans ((hb3.alloc hb3.size (.cells (bs B) 37)).mono hbs2)
        have hbs4 : w.heap.size ≤ (w3.alloc (.cells (bs B) 37)).heap.size := Nat.le_trans (Nat.le_trans hbs2 hb3.size) (by simp)
        have CD := D.down _ _ _ _ _ HA4.out
        rw [HDN.out] at CD
        have hz := zeros_blk
        clear CR hb3 HA2 hb2
        go_wp2_with (first | (refine wpList_store_row rfl 37 _ _ rfl w3.heap.size (bs B) rfl rfl 37 _ (Row.fresh _ _ _) (by rw [size_bs, HB.out]; exact size_blk) (by simp only [size_bs, HB.out, length_blk]; try rfl) (one_bs _) ?_; rw [World.setRow_alloc_new]))
        refine CD.mono ?_
        rintro e w5 ⟨rfl, hb5⟩
        have HA5 := Lib.hid (D.still HA4.out hb5)
        have hb05 := hb4.trans (hb5.mono hbs4)
        have hbs5 := Nat.le_trans hbs4 hb5.size
        have CW := D.write' 0 (blk 0#8) HA5.out (length_blk _) HLL.out (by decide) (Mu.wrote 0 (blk 0#8)) 0 (by rw [HW.out]) (by rw [HW.out])
        have HLT := Lib.hid (D.lt HA5.out)
        clear CD hb5 HA4 hb4 hbs4
        go_wp2_with fail
        refine CW.mono ?_
        rintro e w6 ⟨rfl, F6, hA6, hC6, _⟩
        have hb06 := hb05.trans (acts_below HLT.out hC6 hbs5)
        have hbs6 := Nat.le_trans hbs5 hC6.size
        clear CW hA6 hC6 HLT HA5 hb05 hbs5 hz
        go_wp2_with fail
        refine (dwakes_any D w6).mono ?_
        rintro e w7 ⟨rfl, hb7⟩
        go_wp2_with fail
        go_ret
        exact ⟨rfl, hb06.trans (hb7.mono hbs6)⟩
end Go.Proofs.Yteehpdeeaebliaa
