/- The statement DiskReads: its walk. -/
import Derived.Test.YteehpdeeaebliaaDiskWakes
import Derived.Test.YteehpdeeaebliaaDiskFair
import Derived.Test.YteehpdeeaebliaaMod
import Derived.Test.YteehpdeeaebliaaRowB
namespace Go.Proofs.Yteehpdeeaebliaa
open Go Go.RowKit
theorem info7 : (Try.prog.info? 59).map (·.zero) = some (some (.agg (flatV (List.replicate 7 (blk 0#8))))) := by kernel_rfl
theorem zero7 (w : World) : (zeroValue 59).run Try.prog w = .ok (.agg (flatV (List.replicate 7 (blk 0#8)))) w := by
  obtain ⟨i, hi, hz⟩ := Option.map_eq_some_iff.1 info7
  simp [zeroValue, typeInfo, hi, hz]
def rv (M : DiskM) : List (List (BitVec 8)) := DiskM.put M.s M.l
theorem length_rv (M : DiskM) : (rv M).length = M.s.length := DiskM.length_put _ _
theorem rv_len {M : DiskM} (h : M.Ok) : ∀ b ∈ rv M, b.length = 32 := DiskM.put_len _ _ h.s fun x hx => (h.l x hx).2
structure RdsRel (D : DiskOps) (base : Nat) (p : Value) (gw : Nat) (k : Nat) (w wr : World) (M : DiskM) (F : Nat → Prop) : Prop where
  at_ : D.A base wr p M F
  row : Row wr gw 59 (flatV (rv M))
  far : ¬ F gw
  len : M.s.length = 7
  few : M.l.length ≤ k
  f : M.f = -1
  down : M.down = false
  below : Below base w wr
  bse : base ≤ wr.heap.size
  gb : base ≤ gw
section
variable {D : DiskOps} {base gw k : Nat} {p : Value} {w wr wr' : World} {M : DiskM} {F : Nat → Prop}
theorem RdsRel.stuck (h : RdsRel D base p gw k w wr M F) : M.stuck = false := by unfold DiskM.stuck; rw [h.down, h.f]; rfl
theorem RdsRel.burnt (h : RdsRel D base p gw k w wr M F) : M.burnt.f = -1 := by unfold DiskM.burnt; rw [h.f]; rfl
theorem RdsRel.fRes (h : RdsRel D base p gw k w wr M F) : M.fRes = (0, M.flushed) := by unfold DiskM.fRes; rw [h.stuck]; rfl
theorem RdsRel.has (h : RdsRel D base p gw k w wr M F) {j : Nat} (hj : j < 7) : M.has (j : Int) = true := by
  unfold DiskM.has; rw [h.len, decide_eq_true (by omega), decide_eq_true (by omega)]; rfl
theorem RdsRel.wRes (h : RdsRel D base p gw k w wr M F) {j : Nat} (hj : j < 7) (b : List (BitVec 8)) : M.wRes (j : Int) b = (0, M.wrote j b) := by
  unfold DiskM.wRes; rw [h.has hj, h.stuck]; rfl
theorem RdsRel.rRes (h : RdsRel D base p gw k w wr M F) {j : Nat} (hj : j < 7) : M.rRes (j : Int) = ((rv M).getD j [], 0) := by
  unfold DiskM.rRes; rw [h.has hj, h.down]; rfl
theorem RdsRel.still (h : RdsRel D base p gw k w wr M F) (hb : Below wr.heap.size wr wr') : RdsRel D base p gw k w wr' M F :=
  ⟨D.still h.at_ hb, h.row.call hb, h.far, h.len, h.few, h.f, h.down, h.below.trans (hb.mono h.bse), Nat.le_trans h.bse hb.size, h.gb⟩
/- behind a call that worked on the disk -/
theorem RdsRel.acted (h : RdsRel D base p gw k w wr M F) {M' : DiskM} {F' : Nat → Prop} (hA : D.A base wr' p M' F') (hC : Chg F wr wr') (hF : ∀ i, F' i → F i ∨ wr.heap.size ≤ i) (hs : M'.s.length = 7) (hl : M'.l.length ≤ k + 1) (hf : M'.f = -1) (hd : M'.down = false) (hv : ∀ s, rv M = s → rv M' = s) : RdsRel D base p gw (k + 1) w wr' M' F' :=
  ⟨hA, by rw [hv _ rfl]; exact h.row.chg hC h.far, fun hg => by rcases hF gw hg with h1 | h1; exact h.far h1; have := h.row.lt; omega, hs, hl, hf, hd, h.below.trans (acts_below (D.lt h.at_) hC h.bse), Nat.le_trans h.bse hC.size, h.gb⟩
theorem RdsRel.stored {w5 w6 : World} (h : RdsRel D base p gw k w wr M F) (hk5 : Chg (fun i => i = gw) wr w5) {j : Nat} {B : List (BitVec 8)} (row5 : Row w5 gw 59 (flatV ((rv M).set j B))) {F' : Nat → Prop} (hA : D.A base w6 p (M.wrote j B) F') (hC : Chg F w5 w6) (hF : ∀ i, F' i → F i ∨ w5.heap.size ≤ i) : RdsRel D base p gw (k + 1) w w6 (M.wrote j B) F' := by
  have hb5 : Below base w w5 := h.below.trans (hk5.below (fun i hi => by rw [hi]; exact h.gb) h.bse)
  have hs5 : base ≤ w5.heap.size := Nat.le_trans h.bse hk5.size
  refine ⟨hA, ?_, fun hg => by rcases hF gw hg with h1 | h1; exact h.far h1; have := row5.lt; omega, h.len, by show (M.l ++ [(j, B)]).length ≤ k + 1; rw [List.length_append]; exact Nat.add_le_add h.few (Nat.le_refl 1), h.burnt, h.down, hb5.trans (hC.below (fun i hi => (D.lt h.at_ i hi).1) hs5), Nat.le_trans hs5 hC.size, h.gb⟩
  have e : rv (M.wrote j B) = (rv M).set j B := DiskM.put_snoc _ _ _
  rw [e]
  exact row5.chg hC h.far
end
theorem getD_set_same {l : List (List (BitVec 8))} {j : Nat} {B : List (BitVec 8)} (h : j < l.length) : (l.set j B).getD j [] = B := by simp [List.getD_eq_getElem?_getD, h]
def RdAt (w W : World) (gx gw : Nat) (B : List (BitVec 8)) (s : List (List (BitVec 8))) : Prop := Row W gx 37 (bs B) ∧ Row W gw 59 (flatV s) ∧ Below w.heap.size w W
theorem rdAt_stays {w W W' : World} {gx gw : Nat} {B : List (BitVec 8)} {s : List (List (BitVec 8))} (h : RdAt w W gx gw B s) (k : Same W W') : RdAt w W' gx gw B s := ⟨h.1.call k, h.2.1.call k, h.2.2.trans (k.mono h.2.2.size)⟩
set_option maxRecDepth 20000 in
set_option maxHeartbeats 1600000 in
theorem reads_walk (D : DiskOps) (A : Option Addr) (n c : Nat) (l : List StepD) (w : World) (h : rdSl 4 rdStep w [.slice A n c] l) :
    Calls Try.prog 7 #[.slice A n c] w fun e w' => e = .returned (.bool true) ∧ Below w.heap.size w w' := by
  have H := Lib.hid h
  have HN : Hid (l.length = n) := Lib.hid (by obtain ⟨_, _, h1, _⟩ := h; injection h1 with h1 _; injection h1 with _ h1 _; exact h1.symm)
  have C0 := D.new w.heap.size w 7 (Nat.le_refl _) (by decide)
  rw [makes_yes _ _ _ _ (by decide)] at C0
  clear h
  go_enter Try.func7, Try.ntmps7
  go_wp2_with fail
  refine C0.mono ?_
  rintro e w1 ⟨g, F, rfl, hA, hb1, hF⟩
  have HA := Lib.hid hA
  have HF := Lib.hid hF
  have H1 := Lib.hid (stays_steps w.heap.size w w1 _ _ H.out hb1 (Nat.le_refl _))
  clear C0 hA hF
  go_wp2_with fail
  refine (fairD_any w1 A n c l H1.out).mono ?_
  rintro e w2 ⟨b, rfl, hb, rfl⟩
  cases b with
  | false =>
    go_wp2_with fail
    refine (dwakes_any D w1).mono ?_
    rintro e w2 ⟨rfl, hb2⟩
    go_wp2_with fail
    go_ret
    exact ⟨rfl, hb1.trans (hb2.mono hb1.size)⟩
  | true =>
    obtain ⟨hn, _⟩ := hb rfl
    rw [HN.out] at hn
    have hz7 := zero7
    have hs0 := Same.alloc w1 (.cells (flatV (List.replicate 7 (blk 0#8))) 59)
    have hlt1 := D.lt HA.out
    have R0 : Hid (RdsRel D w.heap.size (.pointer (some ⟨g, 0, none⟩)) w1.heap.size 0 w (w1.alloc (.cells (flatV (List.replicate 7 (blk 0#8))) 59)) (DiskM.new 7) F) :=
      Lib.hid ⟨D.still HA.out hs0, Row.fresh _ _ _, fun hg => by have := (hlt1 _ hg).2; omega, rfl, Nat.le_refl _, rfl, rfl, hb1.trans (hs0.mono hb1.size), Nat.le_trans hb1.size hs0.size, hb1.size⟩
    clear hb hs0 hlt1
    go_wp2_with fail
    clear hz7
    go_loopw [6] (fun i wr => ∃ k : Nat, k ≤ n ∧ i = .int .i64 k ∧ ∃ M F, RdsRel D w.heap.size (.pointer (some ⟨g, 0, none⟩)) w1.heap.size k w wr M F) (fun i _ => n - (intOf i).toNat)
    case atStart => exact ⟨0, by omega, rfl, _, _, R0.out⟩
    case round =>
      obtain ⟨k, hk, rfl, M, F, hR⟩ := hrel
      have HR := Lib.hid hR
      have H2 := Lib.hid (stays_steps w.heap.size w wr _ _ H.out hR.below (Nat.le_refl _))
      have hfew := hR.few
      clear R0 HA HF hR
      by_cases hlt : k < n
      · have hkl : k < l.length := by rw [HN.out]; exact hlt
        obtain ⟨x, hx⟩ : ∃ x, l[k]? = some x := ⟨_, List.getElem?_eq_getElem hkl⟩
        obtain ⟨b, o, rfl, _, hs⟩ := steps_at H2.out hx
        have ci := hs.i
        have ck := hs.kind
        have cv := hs.v
        have wi := hs.wi
        have hbl : b < wr.heap.size := World.block_lt_of_cell? wr _ ci
        have hk0 : (0 : Int) ≤ (k : Int) := by omega
        have hk1 : (k : Int) < (n : Int) := by omega
        have hj := modK_lt x.i 7 (by decide)
        have CM := mod_at x.i 7 7 wr rfl (by decide) (by decide)
        generalize modK x.i 7 = j at *
        clear hs hx hkl H1
        by_cases hkind : x.kind = 2
        · have hd : (x.kind == 2) = true := by rw [hkind]; rfl
          have CF := D.flush' HR.out.at_ (by unfold few; omega) M.flushed 0 (by rw [HR.out.fRes]) (by rw [HR.out.fRes])
          clear cv hkind
          go_wp2_with fail
          refine CM.mono ?_
          rintro e w2 ⟨rfl, rfl⟩
          clear CM ci wi
          go_wp2_with fail
          refine CF.mono ?_
          rintro e w3 ⟨rfl, F', hA, hC, hF'⟩
          have hR3 := HR.out.acted hA hC hF' (by show (DiskM.put M.s M.l).length = 7; rw [DiskM.length_put]; exact HR.out.len) (Nat.zero_le _) HR.out.burnt HR.out.down (fun s hs => hs)
          have HR3 := Lib.hid hR3
          have CL := D.loose _ _ _ _ _ hA (by show 0 ≤ few; unfold few; omega)
          clear CF hA hC hF' hR3 ck hd HR
          go_wp2_with fail
          refine CL.mono ?_
          rintro e w4 ⟨rfl, hb4⟩
          have HR4 := Lib.hid (HR3.out.still hb4)
          clear CL HR3 hb4
          go_wp2_with fail
          exact ⟨⟨k + 1, by omega, by go_num, _, _, HR4.out⟩, by simp [intOf]; omega⟩
        · have hd : (x.kind == 2) = false := beq_eq_false_iff_ne.2 hkind
          have CL := D.loose _ _ _ _ _ HR.out.at_ (by unfold few; omega)
          have HCV := Lib.hid cv
          clear hkind cv
          go_wp2_with fail
          refine CM.mono ?_
          rintro e w2 ⟨rfl, rfl⟩
          clear CM ci wi
          go_wp2_with fail
          refine CL.mono ?_
          rintro e w3 ⟨rfl, hb3⟩
          have HR3 := Lib.hid (HR.out.still hb3)
          have cv : w3.cell? ⟨b, o + k * 4 + 2, none⟩ = some (.int .u8 (bd x.v)) := (hb3.cell (p := ⟨b, o + k * 4 + 2, none⟩) hbl).trans HCV.out
          clear CL HR HCV ck hd hb3
          go_wp2_with fail
          refine (fill_any x.v w3).mono ?_
          rintro e w4 ⟨rfl, hb4⟩
          have HR4 := Lib.hid (HR3.out.still hb4)
          obtain ⟨B, hB⟩ : ∃ B, blk x.v = B := ⟨_, rfl⟩
          have HB : Hid (B.length = 32) := Lib.hid (by rw [← hB]; exact length_blk _)
          rw [hB]
          have hj0 : (0 : Int) ≤ (j : Int) := by omega
          have hj1 : (j : Int) < 7 := by omega
          have HOK := Lib.hid (D.ok HR4.out.at_)
          have hjl : j < (rv M).length := by rw [length_rv, HR4.out.len]; exact hj
          have hth := rowB_there HR4.out.row (rv_len HOK.out) hjl
          have HS5 := Lib.hid (rowB_set HR4.out.row (rv_len HOK.out) hjl HB.out)
          have hld := rowB_at HS5.out (fun d hd => by rcases List.mem_or_eq_of_mem_set hd with h2 | h2; exact rv_len HOK.out d h2; rw [h2]; exact HB.out) (k := j) (by rw [List.length_set]; exact hjl)
          rw [getD_set_same hjl] at hld
          have HK5 : Hid (Chg (fun i => i = w1.heap.size) w4 (w4.setCells w1.heap.size (j * 32) (bs B).toList)) := Lib.hid (Chg.setCells (F := fun i => i = w1.heap.size) (.inl rfl) _ _ (Chg.refl _ _))
          have CW := D.write' (j : Int) B (D.keep HR4.out.at_ HK5.out (fun i hi e => HR4.out.far (by rw [← e]; exact hi))) HB.out (by unfold few; omega) (by omega) (M.wrote j B) 0 (by rw [HR4.out.wRes hj]) (by rw [HR4.out.wRes hj])
          clear HR3 cv hb4 hB
          go_wp2_with (first | (refine wpList_store_mid rfl 37 _ _ rfl w1.heap.size (j * 32) (bs B) rfl rfl (by rw [size_bs, HB.out]; exact hth) (by rw [size_bs, HB.out]; exact size_blk) (one_bs _) ?_) | (refine wpList_load_mid rfl 37 _ rfl w1.heap.size (j * 32) rfl (bs B).toList _ hld Try.underlying37 rfl (by rw [len_bs, HB.out]; exact size_blk) ?_))
          refine CW.mono ?_
          rintro e w6 ⟨rfl, F', hA, hC, hF'⟩
          have CL2 := D.loose _ _ _ _ _ hA (by show (M.l ++ [(j, B)]).length ≤ few; rw [List.length_append]; unfold few; simp; omega)
          rw [show ((M.wrote j B).l.length : Int) = (M.l.length : Int) + 1 by show ((M.l ++ [(j, B)]).length : Int) = _; rw [List.length_append]; simp] at CL2
          have HR6 := Lib.hid (HR4.out.stored HK5.out HS5.out hA hC hF')
          clear CW hA hC hF' hld hth HS5 HK5 HR4 hjl HOK
          go_wp2_with fail
          refine CL2.mono ?_
          rintro e w7 ⟨rfl, hb7⟩
          have HR7 := Lib.hid (HR6.out.still hb7)
          clear CL2 HR6 hb7
          go_wp2_with fail
          exact ⟨⟨k + 1, by omega, by go_num, _, _, HR7.out⟩, by simp [intOf]; omega⟩
      · obtain rfl : k = n := by omega
        clear H1 H2
        go_wp2_with fail
        go_loopw [9] (fun i ws => ∃ j : Nat, j ≤ 7 ∧ i = .int .i64 j ∧ RdsRel D w.heap.size (.pointer (some ⟨g, 0, none⟩)) w1.heap.size k w ws M F) (fun i _ => 7 - (intOf i).toNat)
        case atStart => exact ⟨0, by omega, rfl, HR.out⟩
        case round =>
          clear HR
          obtain ⟨j, hj, rfl, hT⟩ := hrel
          have HT := Lib.hid hT
          clear hT
          by_cases hlt7 : j < 7
          · have hj0 : (0 : Int) ≤ (j : Int) := by omega
            have hj1 : (j : Int) < 7 := by omega
            obtain ⟨B, hB⟩ : ∃ B, (rv M).getD j [] = B := ⟨_, rfl⟩
            have HJB := Lib.hid hB
            have HSL := Lib.hid (rv_len (D.ok HT.out.at_))
            have HJ : Hid (j < (rv M).length) := Lib.hid (by rw [length_rv, HT.out.len]; exact hlt7)
            have HB : Hid (B.length = 32) := Lib.hid (by rw [← hB]; exact HSL.out _ (by rw [List.getD_eq_getElem?_getD, List.getElem?_eq_getElem HJ.out]; exact List.getElem_mem _))
            have CR := D.read' (j : Int) HT.out.at_ (by unfold few; omega) (by omega) B 0 (by rw [HT.out.rRes hlt7, hB])
            clear hB
            go_wp2_with fail
            refine CR.mono ?_
            rintro e w3 ⟨rfl, hb3⟩
            have HT3 := Lib.hid (HT.out.still hb3)
            have hs3 := Same.alloc w3 (.cells (bs B) 37)
            have HT4 := Lib.hid (HT3.out.still hs3)
            have RX := Lib.hid (Row.fresh w3 37 (bs B))
            obtain ⟨gx, hgx⟩ : ∃ k, w3.heap.size = k := ⟨_, rfl⟩
            have HGX := Lib.hid hgx
            clear CR HT HT3 hb3 hs3 hgx
            go_wp2_with (first | (refine wpList_store_row rfl 37 _ _ rfl w3.heap.size (bs B) rfl rfl 37 _ (Row.fresh _ _ _) (by rw [size_bs, HB.out]; exact size_blk) (by rw [size_bs, HB.out]; rfl) (one_bs _) ?_; rw [World.setRow_alloc_new]))
            rw [HGX.out] at RX ⊢
            clear HGX
            generalize w3.alloc (.cells (bs B) 37) = w4 at *
            generalize hs : rv M = s at *
            have hF0 : Wl [fun W => RdAt w W gx w1.heap.size B s ∧ RdsRel D w.heap.size (.pointer (some ⟨g, 0, none⟩)) w1.heap.size k w W M F] 0 w4.drew := ⟨⟨RX.out, by rw [← hs]; exact HT4.out.row, HT4.out.below.drew⟩, HT4.out.still (Below.refl _ _).drew⟩
            refine wp_region_phs [is (.int .i64 0), is (.bool false), is (.bool false), is (.agg (bs B)), is (.int .i64 (j : Int)), is (.pointer (some ⟨w1.heap.size, j * 32, none⟩)), is (.agg (bs B)), is (.bool false), is (.bool false)] [true, true, true, true, true, true, true, true, true] [(fun W => RdAt w W gx w1.heap.size B s ∧ RdsRel D w.heap.size (.pointer (some ⟨g, 0, none⟩)) w1.heap.size k w W M F)] [false, false, false, false, false, false, false, false, false] [some 0, some 0, some 0, some 0, some 0, some 0, some 0, some 0, some 0] [some 96, some 97, some 98, some 99, some 100, some 101, some 102, some 103, some 104] 9 0 (fun _ => true) rfl rfl (by kernel_rfl) (by kernel_rfl) (by kernel_rfl) (by kernel_rfl) ?_ ?_ ?_ ?_ ?_ ?_
            · repeat first | exact wok_nil | refine wok_cons (by first | exact fun _ _ h k => ⟨rdAt_stays h.1 k, h.2.still k⟩) ?_
            · repeat first | exact vok_nil | refine vok_rig (by first | exact fun _ _ _ h => h) ?_ | refine vok_soft (by first | exact fun _ _ _ h _ => h) ?_
            · exact hF0
            · repeat first | exact all_end (by decide) | refine all_cons (by first | exact rfl | exact ⟨rfl, fun _ _ h => h⟩) ?_
            · refine allp_mild 0 rfl rfl rfl (fun a x W hout hin hP => ?_) ?_
              · have e11 : a.tmps[11]? = some (.int .i64 0) := (hout 11 (by kernel_rfl)).trans rfl
                exact does_move rfl e11 ⟨Same.refl _, rfl⟩
              refine allp_mild 0 rfl rfl rfl (fun a x W hout hin hP => ?_) ?_
              · have e96 := hin.is 0 96 (by kernel_rfl) (by decide) (by kernel_rfl) (by kernel_rfl) _ rfl
                clear hin hout
                intro K Q hK
                go_simp
                exact hK _ _ ⟨Same.refl _, rfl⟩
              refine allp_mild 0 rfl rfl rfl (fun a x W hout hin hP => ?_) ?_
              · have e97 := hin.is 1 97 (by kernel_rfl) (by decide) (by kernel_rfl) (by kernel_rfl) _ rfl
                exact does_move rfl e97 ⟨Same.refl _, rfl⟩
              refine allp_mild 0 rfl rfl rfl (fun a x W hout hin hP => ?_) ?_
              · have e10 : a.tmps[10]? = some (.pointer (some ⟨gx, 0, none⟩)) := (hout 10 (by kernel_rfl)).trans rfl
                clear hin hout
                intro K Q hK
                refine wp_load_mid 37 (.tmp 10) rfl gx 0 (eval_of_get e10) (bs B).toList _ (row_range hP.1.1 (Below.refl W.heap.size W) hP.1.1.lt) Try.underlying37 rfl (by rw [len_bs, HB.out]; exact size_blk) ?_
                exact hK _ _ ⟨Same.refl _, by simp [Vs, is]⟩
              refine allp_mild 0 rfl rfl rfl (fun a x W hout hin hP => ?_) ?_
              · have e9 : a.tmps[9]? = some (.int .i64 (j : Int)) := (hout 9 (by kernel_rfl)).trans rfl
                exact does_move rfl e9 ⟨Same.refl _, rfl⟩
              refine allp_mild 0 rfl rfl rfl (fun a x W hout hin hP => ?_) ?_
              · have e5 : a.tmps[5]? = some (.pointer (some ⟨w1.heap.size, 0, none⟩)) := (hout 5 (by kernel_rfl)).trans rfl
                have e100 := hin.is 4 100 (by kernel_rfl) (by decide) (by kernel_rfl) (by kernel_rfl) _ rfl
                clear hin hout
                intro K Q hK
                go_simp
                exact hK _ _ ⟨Same.refl _, rfl⟩
              refine allp_mild 0 rfl rfl rfl (fun a x W hout hin hP => ?_) ?_
              · have e101 := hin.is 5 101 (by kernel_rfl) (by decide) (by kernel_rfl) (by kernel_rfl) _ rfl
                clear hin hout
                intro K Q hK
                refine wp_load_mid 37 (.tmp 101) rfl w1.heap.size (j * 32) (eval_of_get e101) (bs B).toList _ (by have := rowB_at hP.1.2.1 HSL.out HJ.out; rw [HJB.out] at this; exact this) Try.underlying37 rfl (by rw [len_bs, HB.out]; exact size_blk) ?_
                exact hK _ _ ⟨Same.refl _, by simp [Vs, is]⟩
              refine allp_mild 0 rfl rfl rfl (fun a x W hout hin hP => ?_) ?_
              · have e99 := hin.is 3 99 (by kernel_rfl) (by decide) (by kernel_rfl) (by kernel_rfl) _ rfl
                have e102 := hin.is 6 102 (by kernel_rfl) (by decide) (by kernel_rfl) (by kernel_rfl) _ rfl
                have q := eql_blk B B HB.out HB.out W
                rw [decide_eq_true rfl] at q
                clear hP
                clear hin hout
                intro K Q hK
                go_simp
                exact hK _ _ ⟨Same.refl _, rfl⟩
              refine allp_mild 0 rfl rfl rfl (fun a x W hout hin hP => ?_) ?_
              · have e98 := hin.is 2 98 (by kernel_rfl) (by decide) (by kernel_rfl) (by kernel_rfl) _ rfl
                have e103 := hin.is 7 103 (by kernel_rfl) (by decide) (by kernel_rfl) (by kernel_rfl) _ rfl
                exact does_pick rfl e98 ⟨Same.refl _, eval_of_get e103⟩
              exact all_end (by decide)
            · intro x W hP hV
              have h8 : x 8 = .bool false := hV 8 (by decide) (.inl (by kernel_rfl))
              have HP := Lib.hid hP.2
              clear hV hP
              simp only [putL, Act.put, List.setIfInBounds_toArray, List.set_cons_succ, List.set_cons_zero, h8]
              refine wpAnyH_done (by kernel_rfl) ?_ _
              go_wp2_with fail
              go_roundw
              case rel => exact ⟨j + 1, by omega, by go_num, HP.out⟩
              case measure => simp [intOf]; omega
          · obtain rfl : j = 7 := by omega
            go_wp2_with fail
            refine (dwakes_any D _).mono ?_
            rintro e w3 ⟨rfl, hb3⟩
            go_wp2_with fail
            go_ret
            exact ⟨rfl, HT.out.below.trans (hb3.mono HT.out.bse)⟩
end Go.Proofs.Yteehpdeeaebliaa
