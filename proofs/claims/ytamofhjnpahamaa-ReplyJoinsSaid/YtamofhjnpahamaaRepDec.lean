/- The program's reply of bytes, or that there is none. -/
import Derived.Test.YtamofhjnpahamaaRepPrg
import Derived.Test.YtamofhjnpahamaaClone
import Derived.Test.YtamofhjnpahamaaLowC
import Derived.Test.YtamofhjnpahamaaFill
set_option maxRecDepth 4000
namespace Go.Proofs.Ytamofhjnpahamaa
open Go Go.RowKit
theorem places_rep : placesOf Try.prog 31 = some (3, [(0, 1), (1, 1), (2, 1)]) := by kernel_rfl
theorem zero_rep : (Try.prog.info? 31).bind (·.zero) = some (.agg (repCells 0 0 (.slice none 0 0))) := by kernel_rfl
theorem one_rep (i e : Int) (A : Option Addr) (n c : Nat) : (repCells i e (.slice A n c)).all (·.oneCell') = true := by unfold repCells; simp [Value.oneCell']
theorem i64_wd (x : BitVec 32) : IntKind.i64.wrap (wd x) = wd x := i64_id _ (wd_lo x) (by have := wd_hi x; omega)
/- what bytes tell -/
def rpI (q : List (BitVec 8)) : Int := wd (lv 0 q)
def rpE (q : List (BitVec 8)) : Int := bd (q.getD 4 0#8)
def rpD (q : List (BitVec 8)) : List (BitVec 8) := (q.drop 6).take (q.length - 8)
def rpOk (q : List (BitVec 8)) : Bool := decide (8 ≤ q.length) && mayR (rpI q) (rpE q) (q.length - 8) && decide (repB (rpI q) (rpE q) (rpD q) = q)
set_option maxHeartbeats 800000 in
theorem repdec_len (A : Option Addr) (n cc : Nat) (w : World) (hn : n < 8) :
    Calls Try.prog 15 #[.slice A n cc] w fun e w' => e = .returned (.tuple #[.agg (repCells 0 0 (.slice none 0 0)), .int .i64 11]) ∧ Below w.heap.size w w' := by
  have hlt : (n : Int) < 8 := by omega
  have HS := St.nil w noF
  go_enter Try.func15, Try.ntmps15
  go_upto_region 1 with (first | ((with_reducible refine wpList_plain ?_ ?_); exact rfl; intro KK hKK; refine wp_st_alloc HS 31 (repCells 0 0 (.slice none 0 0)) rfl (.agg (repCells 0 0 (.slice none 0 0))) (by kernel_rfl) (rfl) (fun g2 W1 HSx => hKK _ _ ?_); clear hKK KK HS; have HS : St w noF [⟨g2, 31, repCells 0 0 (.slice none 0 0)⟩] W1 := HSx; clear HSx))
  have HS := HS
  go_wp2_with (first | ((with_reducible refine wpList_plain ?_ ?_); exact rfl; intro KK hKK; refine wp_st_store HS 0 0 31 (.tmp 2) (.tmp 10) rfl rfl rfl (.agg (repCells 0 0 (.slice none 0 0))) rfl (by exact size_rep) (Nat.le_refl 3) (one_rep _ _ _ _ _) (repCells 0 0 (.slice none 0 0)) (spl_agg _ _ _ rfl rfl) (fun W31 HSx => hKK _ _ ?_); clear hKK KK HS; have HS : St w noF [⟨g2, 31, repCells 0 0 (.slice none 0 0)⟩] W31 := HSx; clear HSx))
  exact bodyPost_ret (v := .tuple #[.agg (repCells 0 0 (.slice none 0 0)), .int .i64 11]) (results_cell_tmp Try.results15 _ _ g2 31 (repCells 0 0 (.slice none 0 0)) (0, 0) _ rfl (HS.row 0 rfl) Try.underlying31 rfl (by exact size_rep)) rfl ⟨rfl, HS.below⟩
set_option maxRecDepth 20000 in
set_option maxHeartbeats 1600000 in
theorem repdec_no (g o cc m : Nat) (q : List (BitVec 8)) (w : World) (hB : BAt w g o q) (hl : q.length = m + 8) (hc : m + 8 ≤ cc) (hm : m ≤ 999999990) (hmr : mayR (rpI q) (rpE q) m = false) :
    Calls Try.prog 15 #[.slice (some ⟨g, o, none⟩) (m + 8) cc] w fun e w' => e = .returned (.tuple #[.agg (repCells 0 0 (.slice none 0 0)), .int .i64 11]) ∧ Below w.heap.size w w' := by
  have HBA0 := Lib.hid hB
  have HQL := Lib.hid hl
  have HCC := Lib.hid hc
  have HM := Lib.hid hm
  have k0 : ¬ cc = 0 := by omega
  have k6 : ¬ cc = 6 := by omega
  have l6 : 6 ≤ cc := by omega
  have l8 : ¬ (m : Int) + 8 < 8 := by omega
  have l4 : (4 : Int) < (m : Int) + 8 := by omega
  have l4n : 4 < m + 8 := by omega
  have l66 : (6 : Int) ≤ (m : Int) + 6 := by omega
  have lmc : (m : Int) + 6 ≤ (cc : Int) := by omega
  have lmn : m + 6 ≤ cc := by omega
  obtain ⟨x4, hx4⟩ : ∃ x, q.getD 4 0#8 = x := ⟨_, rfl⟩
  obtain ⟨i, hi⟩ : ∃ i, lv 0 q = i := ⟨_, rfl⟩
  obtain ⟨d, hd⟩ : ∃ d, (q.drop 6).take m = d := ⟨_, rfl⟩
  have HX4 := Lib.hid hx4
  have HI := Lib.hid hi
  have HD := Lib.hid hd
  have HDL : Hid (d.length = m) := Lib.hid (by rw [← hd, List.length_take, List.length_drop, hl]; omega)
  have hri : rpI q = wd i := by unfold rpI; rw [hi]
  have hre : rpE q = bd x4 := by unfold rpE; rw [hx4]
  have hrd : rpD q = d := by unfold rpD; rw [hl]; exact hd
  rw [hri, hre] at hmr
  have HMR := Lib.hid hmr
  clear hmr
  clear hB hl hc hm hx4 hi hd hri hre hrd
  have HS := St.nil w noF
  go_enter Try.func15, Try.ntmps15
  go_upto_region 1 with (first | ((with_reducible refine wpList_plain ?_ ?_); exact rfl; intro KK hKK; refine wp_st_alloc HS 31 (repCells 0 0 (.slice none 0 0)) rfl (.agg (repCells 0 0 (.slice none 0 0))) (by kernel_rfl) (rfl) (fun g2 W1 HSx => hKK _ _ ?_); clear hKK KK HS; have HS : St w noF [⟨g2, 31, repCells 0 0 (.slice none 0 0)⟩] W1 := HSx; clear HSx))
  have HS := HS
  obtain ⟨B0, hB0⟩ : ∃ B0, W1.heap.size = B0 := ⟨_, rfl⟩
  have HBA1 : BAt W1 g o q := HBA0.out.call HS.below
  have HB0 : Hid (w.heap.size ≤ B0) := Lib.hid (by rw [← hB0]; exact HS.below.size)
  have HLT : Hid (∀ b ∈ ([⟨g2, 31, repCells 0 0 (.slice none 0 0)⟩] : List Blk), b.g < B0) := Lib.hid (by rw [← hB0]; exact fun b hb => HS.lt hb)
  have HGB : Hid (g < B0) := Lib.hid (by rw [← hB0]; exact HBA1.lt)
  have HBB : Hid (B0 ≤ W1.heap.size) := Lib.hid (Nat.le_of_eq hB0.symm)
  clear hB0 HBA0
  go_upto_region 3 with fail
  have hF0 : Wl [fun W => St w noF [⟨g2, 31, repCells 0 0 (.slice none 0 0)⟩] W ∧ BAt W g o q ∧ B0 ≤ W.heap.size, fun W => St w noF [⟨g2, 31, repCells 0 0 (.slice none 0 0)⟩] W ∧ BAt W g o q ∧ B0 ≤ W.heap.size] 0 W1.drew := ⟨HS.drew, HBA1.call (Below.refl _ _).drew, HBB.out⟩
  clear HS HBA1 HBB
  refine wp_region_phas [is (.slice (some ⟨g, o, none⟩) (m + 8) cc), is (.slice (some ⟨g, o, none⟩) (m + 8) cc), is (.int .u32 (wd i)), is (.int .i64 (wd i)), is (.slice (some ⟨g, o, none⟩) (m + 8) cc), is (.pointer (some ⟨g, o + 4, none⟩)), is (.int .u8 (bd x4)), is (.int .i64 (bd x4)), is (.slice (some ⟨g, o, none⟩) (m + 8) cc), is (.slice (some ⟨g, o, none⟩) (m + 8) cc), is (.int .i64 ((m : Int) + 8)), is (.int .i64 ((m : Int) + 6)), is (.slice (some ⟨g, o + 6, none⟩) m (cc - 6)), (fun u W => W.ownsRow B0 5 1 u m (bytesV d)), (fun v W => ∃ u, v = Value.agg (repCells (wd i) (bd x4) u) ∧ W.ownsRow B0 5 1 u m (bytesV d)), (fun v W => ∃ k, v = Value.pointer (some ⟨k, 0, none⟩) ∧ Row W k 31 (repCells 0 0 (.slice none 0 0)) ∧ B0 ≤ k), (fun v W => ∃ k u, v = Value.pointer (some ⟨k, 0, none⟩) ∧ Row W k 31 (repCells (wd i) (bd x4) u) ∧ B0 ≤ k ∧ W.ownsRow B0 5 1 u m (bytesV d))] [true, true, true, true, true, true, true, true, true, true, true, true, true, false, false, false, false] [(fun W => St w noF [⟨g2, 31, repCells 0 0 (.slice none 0 0)⟩] W ∧ BAt W g o q ∧ B0 ≤ W.heap.size), (fun W => St w noF [⟨g2, 31, repCells 0 0 (.slice none 0 0)⟩] W ∧ BAt W g o q ∧ B0 ≤ W.heap.size)] [false, false, false, false, false, false, false, false, false, false, false, false, false, false, false, false, true] [some 0, some 0, some 0, some 0, some 0, some 0, some 0, some 0, some 0, some 0, some 0, some 0, some 0, some 0, some 0, some 0, some 0] [none, none, none, none, none, none, none, none, none, none, none, none, none, none, none, none, some 15] [some 11, some 12, some 13, some 14, some 15, some 16, some 17, some 18, some 19, some 20, some 21, some 22, some 23, some 24, some 25, some 4, none] 17 1 (fun _ => true) rfl rfl (by kernel_rfl) (by kernel_rfl) (by kernel_rfl) (by kernel_rfl) (by kernel_rfl) ?_ ?_ ?_ ?_ ?_ ?_
  · repeat first | exact wok_nil | refine wok_cons (by first | exact fun _ _ h k => ⟨h.1.same k, h.2.1.call k, Nat.le_trans h.2.2 k.size⟩) ?_
  · repeat first | exact vok_nil | refine vok_rig (by first | exact fun _ _ _ h => h) ?_ | refine vok_soft (by first | exact fun _ _ _ h _ => h | exact fun _ _ _ h k => owns_call h k | exact fun _ _ _ h k => ⟨h.choose, h.choose_spec.1, h.choose_spec.2.1.call k, h.choose_spec.2.2⟩ | exact fun _ _ _ h k => ⟨h.choose, h.choose_spec.1, owns_call h.choose_spec.2 k⟩ | exact fun _ _ _ h k => ⟨h.choose, h.choose_spec.choose, h.choose_spec.choose_spec.1, h.choose_spec.choose_spec.2.1.call k, h.choose_spec.choose_spec.2.2.1, owns_call h.choose_spec.choose_spec.2.2.2 k⟩) ?_
  · exact hF0
  · repeat first | exact all_end (by decide) | refine all_cons (by first | exact rfl | exact ⟨rfl, fun _ _ h => Or.inl h⟩ | exact ⟨rfl, fun _ _ h => Or.inr ⟨h, rfl⟩⟩) ?_
  · refine alla_old rfl (step_mild 0 rfl rfl rfl (fun a x W hout hin hP => ?_)) ?_
    · have e0 : a.tmps[0]? = some (.slice (some ⟨g, o, none⟩) (m + 8) cc) := (hout 0 (by kernel_rfl)).trans rfl
      exact does_move rfl e0 ⟨Same.refl _, rfl⟩
    refine alla_old rfl (step_mild 0 rfl rfl rfl (fun a x W hout hin hP => ?_)) ?_
    · have e11 := hin.is 0 11 (by kernel_rfl) (by decide) (by kernel_rfl) (by kernel_rfl) _ rfl
      clear hin hout
      intro K Q hK
      go_simp
      exact hK _ _ ⟨Same.refl _, rfl⟩
    refine alla_old rfl (step_mild 0 rfl rfl rfl (fun a x W hout hin hP => ?_)) ?_
    · have e12 := hin.is 1 12 (by kernel_rfl) (by decide) (by kernel_rfl) (by kernel_rfl) _ rfl
      have C := long_at g o (m + 8) cc q W hP.2.1 (by rw [HQL.out]; omega) (by omega) HCC.out
      rw [HI.out] at C
      clear hP
      clear hin hout
      intro K Q hK
      go_simp
      refine C.mono ?_
      rintro e W' ⟨rfl, hb⟩
      exact hK _ _ ⟨hb, rfl⟩
    refine alla_old rfl (step_mild 0 rfl rfl rfl (fun a x W hout hin hP => ?_)) ?_
    · have e13 := hin.is 2 13 (by kernel_rfl) (by decide) (by kernel_rfl) (by kernel_rfl) _ rfl
      have hw := i64_wd i
      clear hin hout
      intro K Q hK
      go_simp
      exact hK _ _ ⟨Same.refl _, rfl⟩
    refine alla_old rfl (step_mild 0 rfl rfl rfl (fun a x W hout hin hP => ?_)) ?_
    · have e0 : a.tmps[0]? = some (.slice (some ⟨g, o, none⟩) (m + 8) cc) := (hout 0 (by kernel_rfl)).trans rfl
      exact does_move rfl e0 ⟨Same.refl _, rfl⟩
    refine alla_old rfl (step_mild 0 rfl rfl rfl (fun a x W hout hin hP => ?_)) ?_
    · have e15 := hin.is 4 15 (by kernel_rfl) (by decide) (by kernel_rfl) (by kernel_rfl) _ rfl
      clear hin hout
      intro K Q hK
      go_simp
      exact hK _ _ ⟨Same.refl _, rfl⟩
    refine alla_old rfl (step_mild 0 rfl rfl rfl (fun a x W hout hin hP => ?_)) ?_
    · have e16 := hin.is 5 16 (by kernel_rfl) (by decide) (by kernel_rfl) (by kernel_rfl) _ rfl
      have hc : W.cell? ⟨g, o + 4, none⟩ = some (.int .u8 (bd x4)) := HX4.out ▸ hP.2.1.get 4 (by rw [HQL.out]; omega)
      clear hP
      clear hin hout
      intro K Q hK
      go_simp
      exact hK _ _ ⟨Same.refl _, rfl⟩
    refine alla_old rfl (step_mild 0 rfl rfl rfl (fun a x W hout hin hP => ?_)) ?_
    · have e17 := hin.is 6 17 (by kernel_rfl) (by decide) (by kernel_rfl) (by kernel_rfl) _ rfl
      have hw := i64_bd x4
      clear hin hout
      intro K Q hK
      go_simp
      exact hK _ _ ⟨Same.refl _, rfl⟩
    refine alla_old rfl (step_mild 0 rfl rfl rfl (fun a x W hout hin hP => ?_)) ?_
    · have e0 : a.tmps[0]? = some (.slice (some ⟨g, o, none⟩) (m + 8) cc) := (hout 0 (by kernel_rfl)).trans rfl
      exact does_move rfl e0 ⟨Same.refl _, rfl⟩
    refine alla_old rfl (step_mild 0 rfl rfl rfl (fun a x W hout hin hP => ?_)) ?_
    · have e0 : a.tmps[0]? = some (.slice (some ⟨g, o, none⟩) (m + 8) cc) := (hout 0 (by kernel_rfl)).trans rfl
      exact does_move rfl e0 ⟨Same.refl _, rfl⟩
    refine alla_old rfl (step_mild 0 rfl rfl rfl (fun a x W hout hin hP => ?_)) ?_
    · have e20 := hin.is 9 20 (by kernel_rfl) (by decide) (by kernel_rfl) (by kernel_rfl) _ rfl
      clear hin hout
      intro K Q hK
      go_simp
      exact hK _ _ ⟨Same.refl _, rfl⟩
    refine alla_old rfl (step_mild 0 rfl rfl rfl (fun a x W hout hin hP => ?_)) ?_
    · have e21 := hin.is 10 21 (by kernel_rfl) (by decide) (by kernel_rfl) (by kernel_rfl) _ rfl
      have hw : IntKind.i64.wrap ((m : Int) + 8 - 2) = (m : Int) + 6 := by rw [show (m : Int) + 8 - 2 = (m : Int) + 6 by omega]; exact i64_id _ (by omega) (by have := HM.out; omega)
      clear hin hout
      intro K Q hK
      go_simp
      exact hK _ _ ⟨Same.refl _, rfl⟩
    refine alla_old rfl (step_mild 0 rfl rfl rfl (fun a x W hout hin hP => ?_)) ?_
    · have e19 := hin.is 8 19 (by kernel_rfl) (by decide) (by kernel_rfl) (by kernel_rfl) _ rfl
      have e22 := hin.is 11 22 (by kernel_rfl) (by decide) (by kernel_rfl) (by kernel_rfl) _ rfl
      clear hin hout
      intro K Q hK
      go_simp
      exact hK _ _ ⟨Same.refl _, rfl⟩
    refine alla_old rfl (step_mild 0 rfl rfl rfl (fun a x W hout hin hP => ?_)) ?_
    · have e23 := hin.is 12 23 (by kernel_rfl) (by decide) (by kernel_rfl) (by kernel_rfl) _ rfl
      have HD6 : Slice W (.slice (some ⟨g, o + 6, none⟩) m (cc - 6)) d := HD.out ▸ ((hP.2.1.drop 6).take m).slice (by rw [HD.out]; exact HDL.out) (by have := HCC.out; omega)
      have hbse := hP.2.2
      have C := clone_any ⟨g, o + 6, none⟩ m (cc - 6) d HDL.out W HD6 (by have := HM.out; omega)
      clear hP HD6
      clear hin hout
      intro K Q hK
      go_simp
      refine C.mono ?_
      rintro e W' ⟨u, rfl, ho, hb⟩
      exact hK _ _ ⟨hb, own_base ho hbse⟩
    refine alla_old rfl (step_mild 0 rfl rfl rfl (fun a x W hout hin hP => ?_)) ?_
    · have e14 := hin.is 3 14 (by kernel_rfl) (by decide) (by kernel_rfl) (by kernel_rfl) _ rfl
      have e18 := hin.is 7 18 (by kernel_rfl) (by decide) (by kernel_rfl) (by kernel_rfl) _ rfl
      obtain ⟨v24, e24, hv24⟩ := hin.get 13 24 (by kernel_rfl) (by decide) (by kernel_rfl) (.inr ⟨rfl, by kernel_rfl⟩)
      clear hin hout hP
      intro K Q hK
      refine wp_buildStruct 31 _ rfl places_rep [.int .i64 (wd i), .int .i64 (bd x4), v24] ?_ ?_ ?_ ?_
      · simp only [List.map_toArray, List.map_cons, List.map_nil, eval_of_get e14, eval_of_get e18, eval_of_get e24]; rfl
      · obtain ⟨A5, c5, rfl, _⟩ := own_slice_form hv24; rfl
      · obtain ⟨A5, c5, rfl, _⟩ := own_slice_form hv24; rfl
      · obtain ⟨A5, c5, rfl, _⟩ := own_slice_form hv24; exact hK _ _ ⟨Same.refl _, _, rfl, hv24⟩
    refine alla_old rfl (step_mild 0 rfl rfl rfl (fun a x W hout hin hP => ?_)) ?_
    · have hbse := hP.2.2
      clear hP hin hout
      intro K Q hK
      have hz : (Try.prog.info? 31).bind (·.zero) = some (.agg (repCells 0 0 (.slice none 0 0))) := zero_rep
      refine wp_new_row 31 (repCells 0 0 (.slice none 0 0)) rfl hz ?_
      exact hK _ _ ⟨Same.alloc _ _, _, rfl, Row.fresh _ _ _, hbse⟩
    refine alla_wild 0 rfl rfl rfl (fun a x W hout hin hP => ?_) ?_
    · obtain ⟨hw15, hx15⟩ := hin 15 (by kernel_rfl) (by decide)
      have hw15 := hw15 (.inr ⟨rfl, by kernel_rfl⟩)
      have hx15 := hx15 4 (by kernel_rfl)
      obtain ⟨v25, e25, hv25⟩ := hin.get 14 25 (by kernel_rfl) (by decide) (by kernel_rfl) (.inr ⟨rfl, by kernel_rfl⟩)
      obtain ⟨g6, hg6, r6, hb6⟩ := hw15
      obtain ⟨u, rfl, hu⟩ := hv25
      rw [hg6] at hx15
      clear hin hout
      intro K Q hK
      obtain ⟨A5, c5, rfl, _⟩ := own_slice_form hu
      refine wp_store_row 31 (.tmp 4) (.tmp 25) rfl g6 (repCells (wd i) (bd x4) (.slice A5 m c5)) (eval_of_get hx15) (eval_of_get e25) 31 (repCells 0 0 (.slice none 0 0)) r6 (by exact size_rep) rfl (one_rep _ _ _ _ _) ?_
      have hgr := grown_setRow W g6 (repCells (wd i) (bd x4) (.slice A5 m c5))
      exact hK (x 15) _ ⟨⟨hP.1.far hgr (Nat.le_trans HB0.out hb6) (fun b hb => by have := HLT.out b hb; omega), hP.2.1.far hgr (by have := HGB.out; omega), Nat.le_trans hP.2.2 hgr.size⟩, ⟨g6, _, hg6, r6.setRow _, hb6, own_chg hu ((Chg.refl (fun k => k = g6) W).grown hgr (fun k e => by cases e; exact .inl rfl)) (own_apart hu r6 (by decide))⟩, al_one rfl rfl⟩
    exact all_end (by decide)
  · intro x W hP hV hal
    obtain ⟨g6, u, h8, r6, hb6, hu⟩ := hV 16 (by decide) (.inr (by kernel_rfl))
    have h7 : x 15 = .pointer (some ⟨g6, 0, none⟩) := (hal 16 (by decide) 15 rfl).symm.trans h8
    have HS := hP.1
    have HBA := Lib.hid hP.2.1
    obtain ⟨A5, c5, rfl, _⟩ := own_slice_form hu
    have R6 := Lib.hid r6
    have HU := Lib.hid hu
    have HW0 : Hid (B0 ≤ W.heap.size) := Lib.hid hP.2.2
    clear hV hP hal h8 r6 hb6 hu
    simp only [putL, Act.put, List.setIfInBounds_toArray, List.set_cons_succ, List.set_cons_zero, h7]
    simp only [Nat.zero_add, Nat.reduceAdd]
    refine wpAnyH_done (by kernel_rfl) ?_ _
    clear h7
    have CE := repenc_bad (wd i) (bd x4) A5 m c5 W HMR.out
    go_wp2_with (first | ((with_reducible refine wpList_plain ?_ ?_); exact rfl; intro KK hKK; refine wp_load_row 31 (.tmp 4) rfl g6 rfl 31 (repCells (wd i) (bd x4) (.slice A5 m c5)) (0, 0) _ R6.out Try.underlying31 rfl (by exact size_rep) (hKK _ _ ?_); clear hKK KK))
    refine CE.mono ?_
    rintro e w5 ⟨rfl, hb5⟩
    have HSx := HS.same hb5
    clear HS hb5 R6 HU CE
    have HS := HSx
    clear HSx
    go_wp2_with (first | ((with_reducible refine wpList_plain ?_ ?_); exact rfl; intro KK hKK; refine wp_st_store HS 0 0 31 (.tmp 2) (.tmp 39) rfl rfl rfl (.agg (repCells 0 0 (.slice none 0 0))) rfl (by exact size_rep) (Nat.le_refl 3) (one_rep _ _ _ _ _) (repCells 0 0 (.slice none 0 0)) (spl_agg _ _ _ rfl rfl) (fun W41 HSx => hKK _ _ ?_); clear hKK KK HS; have HS : St w noF [⟨g2, 31, repCells 0 0 (.slice none 0 0)⟩] W41 := HSx; clear HSx))
    exact bodyPost_ret (v := .tuple #[.agg (repCells 0 0 (.slice none 0 0)), .int .i64 11]) (results_cell_tmp Try.results15 _ _ g2 31 (repCells 0 0 (.slice none 0 0)) (0, 0) _ rfl (HS.row 0 rfl) Try.underlying31 rfl (by exact size_rep)) rfl ⟨rfl, HS.below⟩
set_option maxRecDepth 20000 in
set_option maxHeartbeats 1600000 in
theorem repdec_other (g o cc m : Nat) (q : List (BitVec 8)) (w : World) (hB : BAt w g o q) (hl : q.length = m + 8) (hc : m + 8 ≤ cc) (hm : m ≤ 999999990) (hmr : mayR (rpI q) (rpE q) m = true) (hbq : ¬ (repB (rpI q) (rpE q) (rpD q) = q)) :
    Calls Try.prog 15 #[.slice (some ⟨g, o, none⟩) (m + 8) cc] w fun e w' => e = .returned (.tuple #[.agg (repCells 0 0 (.slice none 0 0)), .int .i64 11]) ∧ Below w.heap.size w w' := by
  have HBA0 := Lib.hid hB
  have HQL := Lib.hid hl
  have HCC := Lib.hid hc
  have HM := Lib.hid hm
  have k0 : ¬ cc = 0 := by omega
  have k6 : ¬ cc = 6 := by omega
  have l6 : 6 ≤ cc := by omega
  have l8 : ¬ (m : Int) + 8 < 8 := by omega
  have l4 : (4 : Int) < (m : Int) + 8 := by omega
  have l4n : 4 < m + 8 := by omega
  have l66 : (6 : Int) ≤ (m : Int) + 6 := by omega
  have lmc : (m : Int) + 6 ≤ (cc : Int) := by omega
  have lmn : m + 6 ≤ cc := by omega
  obtain ⟨x4, hx4⟩ : ∃ x, q.getD 4 0#8 = x := ⟨_, rfl⟩
  obtain ⟨i, hi⟩ : ∃ i, lv 0 q = i := ⟨_, rfl⟩
  obtain ⟨d, hd⟩ : ∃ d, (q.drop 6).take m = d := ⟨_, rfl⟩
  have HX4 := Lib.hid hx4
  have HI := Lib.hid hi
  have HD := Lib.hid hd
  have HDL : Hid (d.length = m) := Lib.hid (by rw [← hd, List.length_take, List.length_drop, hl]; omega)
  have hri : rpI q = wd i := by unfold rpI; rw [hi]
  have hre : rpE q = bd x4 := by unfold rpE; rw [hx4]
  have hrd : rpD q = d := by unfold rpD; rw [hl]; exact hd
  rw [hri, hre] at hmr
  have HMR := Lib.hid hmr
  clear hmr
  rw [hri, hre, hrd] at hbq
  have HBQ := Lib.hid hbq
  clear hbq
  clear hB hl hc hm hx4 hi hd hri hre hrd
  have HS := St.nil w noF
  go_enter Try.func15, Try.ntmps15
  go_upto_region 1 with (first | ((with_reducible refine wpList_plain ?_ ?_); exact rfl; intro KK hKK; refine wp_st_alloc HS 31 (repCells 0 0 (.slice none 0 0)) rfl (.agg (repCells 0 0 (.slice none 0 0))) (by kernel_rfl) (rfl) (fun g2 W1 HSx => hKK _ _ ?_); clear hKK KK HS; have HS : St w noF [⟨g2, 31, repCells 0 0 (.slice none 0 0)⟩] W1 := HSx; clear HSx))
  have HS := HS
  obtain ⟨B0, hB0⟩ : ∃ B0, W1.heap.size = B0 := ⟨_, rfl⟩
  have HBA1 : BAt W1 g o q := HBA0.out.call HS.below
  have HB0 : Hid (w.heap.size ≤ B0) := Lib.hid (by rw [← hB0]; exact HS.below.size)
  have HLT : Hid (∀ b ∈ ([⟨g2, 31, repCells 0 0 (.slice none 0 0)⟩] : List Blk), b.g < B0) := Lib.hid (by rw [← hB0]; exact fun b hb => HS.lt hb)
  have HGB : Hid (g < B0) := Lib.hid (by rw [← hB0]; exact HBA1.lt)
  have HBB : Hid (B0 ≤ W1.heap.size) := Lib.hid (Nat.le_of_eq hB0.symm)
  clear hB0 HBA0
  go_upto_region 3 with fail
  have hF0 : Wl [fun W => St w noF [⟨g2, 31, repCells 0 0 (.slice none 0 0)⟩] W ∧ BAt W g o q ∧ B0 ≤ W.heap.size, fun W => St w noF [⟨g2, 31, repCells 0 0 (.slice none 0 0)⟩] W ∧ BAt W g o q ∧ B0 ≤ W.heap.size] 0 W1.drew := ⟨HS.drew, HBA1.call (Below.refl _ _).drew, HBB.out⟩
  clear HS HBA1 HBB
  refine wp_region_phas [is (.slice (some ⟨g, o, none⟩) (m + 8) cc), is (.slice (some ⟨g, o, none⟩) (m + 8) cc), is (.int .u32 (wd i)), is (.int .i64 (wd i)), is (.slice (some ⟨g, o, none⟩) (m + 8) cc), is (.pointer (some ⟨g, o + 4, none⟩)), is (.int .u8 (bd x4)), is (.int .i64 (bd x4)), is (.slice (some ⟨g, o, none⟩) (m + 8) cc), is (.slice (some ⟨g, o, none⟩) (m + 8) cc), is (.int .i64 ((m : Int) + 8)), is (.int .i64 ((m : Int) + 6)), is (.slice (some ⟨g, o + 6, none⟩) m (cc - 6)), (fun u W => W.ownsRow B0 5 1 u m (bytesV d)), (fun v W => ∃ u, v = Value.agg (repCells (wd i) (bd x4) u) ∧ W.ownsRow B0 5 1 u m (bytesV d)), (fun v W => ∃ k, v = Value.pointer (some ⟨k, 0, none⟩) ∧ Row W k 31 (repCells 0 0 (.slice none 0 0)) ∧ B0 ≤ k), (fun v W => ∃ k u, v = Value.pointer (some ⟨k, 0, none⟩) ∧ Row W k 31 (repCells (wd i) (bd x4) u) ∧ B0 ≤ k ∧ W.ownsRow B0 5 1 u m (bytesV d))] [true, true, true, true, true, true, true, true, true, true, true, true, true, false, false, false, false] [(fun W => St w noF [⟨g2, 31, repCells 0 0 (.slice none 0 0)⟩] W ∧ BAt W g o q ∧ B0 ≤ W.heap.size), (fun W => St w noF [⟨g2, 31, repCells 0 0 (.slice none 0 0)⟩] W ∧ BAt W g o q ∧ B0 ≤ W.heap.size)] [false, false, false, false, false, false, false, false, false, false, false, false, false, false, false, false, true] [some 0, some 0, some 0, some 0, some 0, some 0, some 0, some 0, some 0, some 0, some 0, some 0, some 0, some 0, some 0, some 0, some 0] [none, none, none, none, none, none, none, none, none, none, none, none, none, none, none, none, some 15] [some 11, some 12, some 13, some 14, some 15, some 16, some 17, some 18, some 19, some 20, some 21, some 22, some 23, some 24, some 25, some 4, none] 17 1 (fun _ => true) rfl rfl (by kernel_rfl) (by kernel_rfl) (by kernel_rfl) (by kernel_rfl) (by kernel_rfl) ?_ ?_ ?_ ?_ ?_ ?_
  · repeat first | exact wok_nil | refine wok_cons (by first | exact fun _ _ h k => ⟨h.1.same k, h.2.1.call k, Nat.le_trans h.2.2 k.size⟩) ?_
  · repeat first | exact vok_nil | refine vok_rig (by first | exact fun _ _ _ h => h) ?_ | refine vok_soft (by first | exact fun _ _ _ h _ => h | exact fun _ _ _ h k => owns_call h k | exact fun _ _ _ h k => ⟨h.choose, h.choose_spec.1, h.choose_spec.2.1.call k, h.choose_spec.2.2⟩ | exact fun _ _ _ h k => ⟨h.choose, h.choose_spec.1, owns_call h.choose_spec.2 k⟩ | exact fun _ _ _ h k => ⟨h.choose, h.choose_spec.choose, h.choose_spec.choose_spec.1, h.choose_spec.choose_spec.2.1.call k, h.choose_spec.choose_spec.2.2.1, owns_call h.choose_spec.choose_spec.2.2.2 k⟩) ?_
  · exact hF0
  · repeat first | exact all_end (by decide) | refine all_cons (by first | exact rfl | exact ⟨rfl, fun _ _ h => Or.inl h⟩ | exact ⟨rfl, fun _ _ h => Or.inr ⟨h, rfl⟩⟩) ?_
  · refine alla_old rfl (step_mild 0 rfl rfl rfl (fun a x W hout hin hP => ?_)) ?_
    · have e0 : a.tmps[0]? = some (.slice (some ⟨g, o, none⟩) (m + 8) cc) := (hout 0 (by kernel_rfl)).trans rfl
      exact does_move rfl e0 ⟨Same.refl _, rfl⟩
    refine alla_old rfl (step_mild 0 rfl rfl rfl (fun a x W hout hin hP => ?_)) ?_
    · have e11 := hin.is 0 11 (by kernel_rfl) (by decide) (by kernel_rfl) (by kernel_rfl) _ rfl
      clear hin hout
      intro K Q hK
      go_simp
      exact hK _ _ ⟨Same.refl _, rfl⟩
    refine alla_old rfl (step_mild 0 rfl rfl rfl (fun a x W hout hin hP => ?_)) ?_
    · have e12 := hin.is 1 12 (by kernel_rfl) (by decide) (by kernel_rfl) (by kernel_rfl) _ rfl
      have C := long_at g o (m + 8) cc q W hP.2.1 (by rw [HQL.out]; omega) (by omega) HCC.out
      rw [HI.out] at C
      clear hP
      clear hin hout
      intro K Q hK
      go_simp
      refine C.mono ?_
      rintro e W' ⟨rfl, hb⟩
      exact hK _ _ ⟨hb, rfl⟩
    refine alla_old rfl (step_mild 0 rfl rfl rfl (fun a x W hout hin hP => ?_)) ?_
    · have e13 := hin.is 2 13 (by kernel_rfl) (by decide) (by kernel_rfl) (by kernel_rfl) _ rfl
      have hw := i64_wd i
      clear hin hout
      intro K Q hK
      go_simp
      exact hK _ _ ⟨Same.refl _, rfl⟩
    refine alla_old rfl (step_mild 0 rfl rfl rfl (fun a x W hout hin hP => ?_)) ?_
    · have e0 : a.tmps[0]? = some (.slice (some ⟨g, o, none⟩) (m + 8) cc) := (hout 0 (by kernel_rfl)).trans rfl
      exact does_move rfl e0 ⟨Same.refl _, rfl⟩
    refine alla_old rfl (step_mild 0 rfl rfl rfl (fun a x W hout hin hP => ?_)) ?_
    · have e15 := hin.is 4 15 (by kernel_rfl) (by decide) (by kernel_rfl) (by kernel_rfl) _ rfl
      clear hin hout
      intro K Q hK
      go_simp
      exact hK _ _ ⟨Same.refl _, rfl⟩
    refine alla_old rfl (step_mild 0 rfl rfl rfl (fun a x W hout hin hP => ?_)) ?_
    · have e16 := hin.is 5 16 (by kernel_rfl) (by decide) (by kernel_rfl) (by kernel_rfl) _ rfl
      have hc : W.cell? ⟨g, o + 4, none⟩ = some (.int .u8 (bd x4)) := HX4.out ▸ hP.2.1.get 4 (by rw [HQL.out]; omega)
      clear hP
      clear hin hout
      intro K Q hK
      go_simp
      exact hK _ _ ⟨Same.refl _, rfl⟩
    refine alla_old rfl (step_mild 0 rfl rfl rfl (fun a x W hout hin hP => ?_)) ?_
    · have e17 := hin.is 6 17 (by kernel_rfl) (by decide) (by kernel_rfl) (by kernel_rfl) _ rfl
      have hw := i64_bd x4
      clear hin hout
      intro K Q hK
      go_simp
      exact hK _ _ ⟨Same.refl _, rfl⟩
    refine alla_old rfl (step_mild 0 rfl rfl rfl (fun a x W hout hin hP => ?_)) ?_
    · have e0 : a.tmps[0]? = some (.slice (some ⟨g, o, none⟩) (m + 8) cc) := (hout 0 (by kernel_rfl)).trans rfl
      exact does_move rfl e0 ⟨Same.refl _, rfl⟩
    refine alla_old rfl (step_mild 0 rfl rfl rfl (fun a x W hout hin hP => ?_)) ?_
    · have e0 : a.tmps[0]? = some (.slice (some ⟨g, o, none⟩) (m + 8) cc) := (hout 0 (by kernel_rfl)).trans rfl
      exact does_move rfl e0 ⟨Same.refl _, rfl⟩
    refine alla_old rfl (step_mild 0 rfl rfl rfl (fun a x W hout hin hP => ?_)) ?_
    · have e20 := hin.is 9 20 (by kernel_rfl) (by decide) (by kernel_rfl) (by kernel_rfl) _ rfl
      clear hin hout
      intro K Q hK
      go_simp
      exact hK _ _ ⟨Same.refl _, rfl⟩
    refine alla_old rfl (step_mild 0 rfl rfl rfl (fun a x W hout hin hP => ?_)) ?_
    · have e21 := hin.is 10 21 (by kernel_rfl) (by decide) (by kernel_rfl) (by kernel_rfl) _ rfl
      have hw : IntKind.i64.wrap ((m : Int) + 8 - 2) = (m : Int) + 6 := by rw [show (m : Int) + 8 - 2 = (m : Int) + 6 by omega]; exact i64_id _ (by omega) (by have := HM.out; omega)
      clear hin hout
      intro K Q hK
      go_simp
      exact hK _ _ ⟨Same.refl _, rfl⟩
    refine alla_old rfl (step_mild 0 rfl rfl rfl (fun a x W hout hin hP => ?_)) ?_
    · have e19 := hin.is 8 19 (by kernel_rfl) (by decide) (by kernel_rfl) (by kernel_rfl) _ rfl
      have e22 := hin.is 11 22 (by kernel_rfl) (by decide) (by kernel_rfl) (by kernel_rfl) _ rfl
      clear hin hout
      intro K Q hK
      go_simp
      exact hK _ _ ⟨Same.refl _, rfl⟩
    refine alla_old rfl (step_mild 0 rfl rfl rfl (fun a x W hout hin hP => ?_)) ?_
    · have e23 := hin.is 12 23 (by kernel_rfl) (by decide) (by kernel_rfl) (by kernel_rfl) _ rfl
      have HD6 : Slice W (.slice (some ⟨g, o + 6, none⟩) m (cc - 6)) d := HD.out ▸ ((hP.2.1.drop 6).take m).slice (by rw [HD.out]; exact HDL.out) (by have := HCC.out; omega)
      have hbse := hP.2.2
      have C := clone_any ⟨g, o + 6, none⟩ m (cc - 6) d HDL.out W HD6 (by have := HM.out; omega)
      clear hP HD6
      clear hin hout
      intro K Q hK
      go_simp
      refine C.mono ?_
      rintro e W' ⟨u, rfl, ho, hb⟩
      exact hK _ _ ⟨hb, own_base ho hbse⟩
    refine alla_old rfl (step_mild 0 rfl rfl rfl (fun a x W hout hin hP => ?_)) ?_
    · have e14 := hin.is 3 14 (by kernel_rfl) (by decide) (by kernel_rfl) (by kernel_rfl) _ rfl
      have e18 := hin.is 7 18 (by kernel_rfl) (by decide) (by kernel_rfl) (by kernel_rfl) _ rfl
      obtain ⟨v24, e24, hv24⟩ := hin.get 13 24 (by kernel_rfl) (by decide) (by kernel_rfl) (.inr ⟨rfl, by kernel_rfl⟩)
      clear hin hout hP
      intro K Q hK
      refine wp_buildStruct 31 _ rfl places_rep [.int .i64 (wd i), .int .i64 (bd x4), v24] ?_ ?_ ?_ ?_
      · simp only [List.map_toArray, List.map_cons, List.map_nil, eval_of_get e14, eval_of_get e18, eval_of_get e24]; rfl
      · obtain ⟨A5, c5, rfl, _⟩ := own_slice_form hv24; rfl
      · obtain ⟨A5, c5, rfl, _⟩ := own_slice_form hv24; rfl
      · obtain ⟨A5, c5, rfl, _⟩ := own_slice_form hv24; exact hK _ _ ⟨Same.refl _, _, rfl, hv24⟩
    refine alla_old rfl (step_mild 0 rfl rfl rfl (fun a x W hout hin hP => ?_)) ?_
    · have hbse := hP.2.2
      clear hP hin hout
      intro K Q hK
      have hz : (Try.prog.info? 31).bind (·.zero) = some (.agg (repCells 0 0 (.slice none 0 0))) := zero_rep
      refine wp_new_row 31 (repCells 0 0 (.slice none 0 0)) rfl hz ?_
      exact hK _ _ ⟨Same.alloc _ _, _, rfl, Row.fresh _ _ _, hbse⟩
    refine alla_wild 0 rfl rfl rfl (fun a x W hout hin hP => ?_) ?_
    · obtain ⟨hw15, hx15⟩ := hin 15 (by kernel_rfl) (by decide)
      have hw15 := hw15 (.inr ⟨rfl, by kernel_rfl⟩)
      have hx15 := hx15 4 (by kernel_rfl)
      obtain ⟨v25, e25, hv25⟩ := hin.get 14 25 (by kernel_rfl) (by decide) (by kernel_rfl) (.inr ⟨rfl, by kernel_rfl⟩)
      obtain ⟨g6, hg6, r6, hb6⟩ := hw15
      obtain ⟨u, rfl, hu⟩ := hv25
      rw [hg6] at hx15
      clear hin hout
      intro K Q hK
      obtain ⟨A5, c5, rfl, _⟩ := own_slice_form hu
      refine wp_store_row 31 (.tmp 4) (.tmp 25) rfl g6 (repCells (wd i) (bd x4) (.slice A5 m c5)) (eval_of_get hx15) (eval_of_get e25) 31 (repCells 0 0 (.slice none 0 0)) r6 (by exact size_rep) rfl (one_rep _ _ _ _ _) ?_
      have hgr := grown_setRow W g6 (repCells (wd i) (bd x4) (.slice A5 m c5))
      exact hK (x 15) _ ⟨⟨hP.1.far hgr (Nat.le_trans HB0.out hb6) (fun b hb => by have := HLT.out b hb; omega), hP.2.1.far hgr (by have := HGB.out; omega), Nat.le_trans hP.2.2 hgr.size⟩, ⟨g6, _, hg6, r6.setRow _, hb6, own_chg hu ((Chg.refl (fun k => k = g6) W).grown hgr (fun k e => by cases e; exact .inl rfl)) (own_apart hu r6 (by decide))⟩, al_one rfl rfl⟩
    exact all_end (by decide)
  · intro x W hP hV hal
    obtain ⟨g6, u, h8, r6, hb6, hu⟩ := hV 16 (by decide) (.inr (by kernel_rfl))
    have h7 : x 15 = .pointer (some ⟨g6, 0, none⟩) := (hal 16 (by decide) 15 rfl).symm.trans h8
    have HS := hP.1
    have HBA := Lib.hid hP.2.1
    obtain ⟨A5, c5, rfl, _⟩ := own_slice_form hu
    have R6 := Lib.hid r6
    have HU := Lib.hid hu
    have HW0 : Hid (B0 ≤ W.heap.size) := Lib.hid hP.2.2
    clear hV hP hal h8 r6 hb6 hu
    simp only [putL, Act.put, List.setIfInBounds_toArray, List.set_cons_succ, List.set_cons_zero, h7]
    simp only [Nat.zero_add, Nat.reduceAdd]
    refine wpAnyH_done (by kernel_rfl) ?_ _
    clear h7
    have HSU : Hid (Slice W (.slice A5 m c5) d) := Lib.hid (by have h := HU.out; rw [← HDL.out] at h ⊢; exact own_slice h)
    have HNU := Lib.hid (own_nil HU.out)
    have CE := repenc_good (wd i) (bd x4) A5 m c5 d HDL.out W HSU.out (fun e => HNU.out m c5 (by rw [e])) HMR.out
    go_wp2_with (first | ((with_reducible refine wpList_plain ?_ ?_); exact rfl; intro KK hKK; refine wp_load_row 31 (.tmp 4) rfl g6 rfl 31 (repCells (wd i) (bd x4) (.slice A5 m c5)) (0, 0) _ R6.out Try.underlying31 rfl (by exact size_rep) (hKK _ _ ?_); clear hKK KK))
    refine CE.mono ?_
    rintro e w5 ⟨v5, rfl, ho5, hb5⟩
    have HSx := HS.same hb5
    have R6x := Lib.hid (R6.out.call hb5)
    have HUx := Lib.hid (owns_call HU.out hb5)
    have HIN := Lib.hid ((HBA.out.call hb5).slice HQL.out HCC.out)
    have HV5 := Lib.hid (own_slice ho5)
    obtain ⟨A6, c6, rfl, _⟩ := own_slice_form ho5
    have HEQ := Lib.hid (equal_any (repB (wd i) (bd x4) d) q _ _ w5 HV5.out HIN.out)
    clear HS hb5 R6 HU CE HSU HNU HBA ho5 HV5 HIN
    have HS := HSx
    have R6 := R6x
    have HU := HUx
    clear HSx R6x HUx
    rw [decide_eq_false HBQ.out] at HEQ
    obtain ⟨ln, hln⟩ : ∃ ln, (repB (wd i) (bd x4) d).length = ln := ⟨_, rfl⟩
    rw [hln] at HEQ
    try rw [hln]
    clear hln
    go_wp2_with fail
    refine HEQ.out.mono ?_
    rintro e w6 ⟨rfl, rfl⟩
    clear HEQ
    go_wp2_with (first | ((with_reducible refine wpList_plain ?_ ?_); exact rfl; intro KK hKK; refine wp_st_store HS 0 0 31 (.tmp 2) (.tmp 39) rfl rfl rfl (.agg (repCells 0 0 (.slice none 0 0))) rfl (by exact size_rep) (Nat.le_refl 3) (one_rep _ _ _ _ _) (repCells 0 0 (.slice none 0 0)) (spl_agg _ _ _ rfl rfl) (fun W41 HSx => hKK _ _ ?_); clear hKK KK HS; have HS : St w noF [⟨g2, 31, repCells 0 0 (.slice none 0 0)⟩] W41 := HSx; clear HSx))
    exact bodyPost_ret (v := .tuple #[.agg (repCells 0 0 (.slice none 0 0)), .int .i64 11]) (results_cell_tmp Try.results15 _ _ g2 31 (repCells 0 0 (.slice none 0 0)) (0, 0) _ rfl (HS.row 0 rfl) Try.underlying31 rfl (by exact size_rep)) rfl ⟨rfl, HS.below⟩
set_option maxRecDepth 20000 in
set_option maxHeartbeats 1600000 in
theorem repdec_good (g o cc m : Nat) (q : List (BitVec 8)) (w : World) (hB : BAt w g o q) (hl : q.length = m + 8) (hc : m + 8 ≤ cc) (hm : m ≤ 999999990) (hmr : mayR (rpI q) (rpE q) m = true) (hbq : (repB (rpI q) (rpE q) (rpD q) = q)) :
    Calls Try.prog 15 #[.slice (some ⟨g, o, none⟩) (m + 8) cc] w fun e w' => ∃ v, e = .returned (.tuple #[.agg (repCells (rpI q) (rpE q) v), .int .i64 0]) ∧ w'.ownsRow w.heap.size 5 1 v m (bytesV (rpD q)) ∧ Below w.heap.size w w' := by
  have HBA0 := Lib.hid hB
  have HQL := Lib.hid hl
  have HCC := Lib.hid hc
  have HM := Lib.hid hm
  have k0 : ¬ cc = 0 := by omega
  have k6 : ¬ cc = 6 := by omega
  have l6 : 6 ≤ cc := by omega
  have l8 : ¬ (m : Int) + 8 < 8 := by omega
  have l4 : (4 : Int) < (m : Int) + 8 := by omega
  have l4n : 4 < m + 8 := by omega
  have l66 : (6 : Int) ≤ (m : Int) + 6 := by omega
  have lmc : (m : Int) + 6 ≤ (cc : Int) := by omega
  have lmn : m + 6 ≤ cc := by omega
  obtain ⟨x4, hx4⟩ : ∃ x, q.getD 4 0#8 = x := ⟨_, rfl⟩
  obtain ⟨i, hi⟩ : ∃ i, lv 0 q = i := ⟨_, rfl⟩
  obtain ⟨d, hd⟩ : ∃ d, (q.drop 6).take m = d := ⟨_, rfl⟩
  have HX4 := Lib.hid hx4
  have HI := Lib.hid hi
  have HD := Lib.hid hd
  have HDL : Hid (d.length = m) := Lib.hid (by rw [← hd, List.length_take, List.length_drop, hl]; omega)
  have hri : rpI q = wd i := by unfold rpI; rw [hi]
  have hre : rpE q = bd x4 := by unfold rpE; rw [hx4]
  have hrd : rpD q = d := by unfold rpD; rw [hl]; exact hd
  rw [hri, hre, hrd]
  rw [hri, hre] at hmr
  have HMR := Lib.hid hmr
  clear hmr
  rw [hri, hre, hrd] at hbq
  have HBQ := Lib.hid hbq
  clear hbq
  clear hB hl hc hm hx4 hi hd hri hre hrd
  have HS := St.nil w noF
  go_enter Try.func15, Try.ntmps15
  go_upto_region 1 with (first | ((with_reducible refine wpList_plain ?_ ?_); exact rfl; intro KK hKK; refine wp_st_alloc HS 31 (repCells 0 0 (.slice none 0 0)) rfl (.agg (repCells 0 0 (.slice none 0 0))) (by kernel_rfl) (rfl) (fun g2 W1 HSx => hKK _ _ ?_); clear hKK KK HS; have HS : St w noF [⟨g2, 31, repCells 0 0 (.slice none 0 0)⟩] W1 := HSx; clear HSx))
  have HS := HS
  obtain ⟨B0, hB0⟩ : ∃ B0, W1.heap.size = B0 := ⟨_, rfl⟩
  have HBA1 : BAt W1 g o q := HBA0.out.call HS.below
  have HB0 : Hid (w.heap.size ≤ B0) := Lib.hid (by rw [← hB0]; exact HS.below.size)
  have HLT : Hid (∀ b ∈ ([⟨g2, 31, repCells 0 0 (.slice none 0 0)⟩] : List Blk), b.g < B0) := Lib.hid (by rw [← hB0]; exact fun b hb => HS.lt hb)
  have HGB : Hid (g < B0) := Lib.hid (by rw [← hB0]; exact HBA1.lt)
  have HBB : Hid (B0 ≤ W1.heap.size) := Lib.hid (Nat.le_of_eq hB0.symm)
  clear hB0 HBA0
  go_upto_region 3 with fail
  have hF0 : Wl [fun W => St w noF [⟨g2, 31, repCells 0 0 (.slice none 0 0)⟩] W ∧ BAt W g o q ∧ B0 ≤ W.heap.size, fun W => St w noF [⟨g2, 31, repCells 0 0 (.slice none 0 0)⟩] W ∧ BAt W g o q ∧ B0 ≤ W.heap.size] 0 W1.drew := ⟨HS.drew, HBA1.call (Below.refl _ _).drew, HBB.out⟩
  clear HS HBA1 HBB
  refine wp_region_phas [is (.slice (some ⟨g, o, none⟩) (m + 8) cc), is (.slice (some ⟨g, o, none⟩) (m + 8) cc), is (.int .u32 (wd i)), is (.int .i64 (wd i)), is (.slice (some ⟨g, o, none⟩) (m + 8) cc), is (.pointer (some ⟨g, o + 4, none⟩)), is (.int .u8 (bd x4)), is (.int .i64 (bd x4)), is (.slice (some ⟨g, o, none⟩) (m + 8) cc), is (.slice (some ⟨g, o, none⟩) (m + 8) cc), is (.int .i64 ((m : Int) + 8)), is (.int .i64 ((m : Int) + 6)), is (.slice (some ⟨g, o + 6, none⟩) m (cc - 6)), (fun u W => W.ownsRow B0 5 1 u m (bytesV d)), (fun v W => ∃ u, v = Value.agg (repCells (wd i) (bd x4) u) ∧ W.ownsRow B0 5 1 u m (bytesV d)), (fun v W => ∃ k, v = Value.pointer (some ⟨k, 0, none⟩) ∧ Row W k 31 (repCells 0 0 (.slice none 0 0)) ∧ B0 ≤ k), (fun v W => ∃ k u, v = Value.pointer (some ⟨k, 0, none⟩) ∧ Row W k 31 (repCells (wd i) (bd x4) u) ∧ B0 ≤ k ∧ W.ownsRow B0 5 1 u m (bytesV d))] [true, true, true, true, true, true, true, true, true, true, true, true, true, false, false, false, false] [(fun W => St w noF [⟨g2, 31, repCells 0 0 (.slice none 0 0)⟩] W ∧ BAt W g o q ∧ B0 ≤ W.heap.size), (fun W => St w noF [⟨g2, 31, repCells 0 0 (.slice none 0 0)⟩] W ∧ BAt W g o q ∧ B0 ≤ W.heap.size)] [false, false, false, false, false, false, false, false, false, false, false, false, false, false, false, false, true] [some 0, some 0, some 0, some 0, some 0, some 0, some 0, some 0, some 0, some 0, some 0, some 0, some 0, some 0, some 0, some 0, some 0] [none, none, none, none, none, none, none, none, none, none, none, none, none, none, none, none, some 15] [some 11, some 12, some 13, some 14, some 15, some 16, some 17, some 18, some 19, some 20, some 21, some 22, some 23, some 24, some 25, some 4, none] 17 1 (fun _ => true) rfl rfl (by kernel_rfl) (by kernel_rfl) (by kernel_rfl) (by kernel_rfl) (by kernel_rfl) ?_ ?_ ?_ ?_ ?_ ?_
  · repeat first | exact wok_nil | refine wok_cons (by first | exact fun _ _ h k => ⟨h.1.same k, h.2.1.call k, Nat.le_trans h.2.2 k.size⟩) ?_
  · repeat first | exact vok_nil | refine vok_rig (by first | exact fun _ _ _ h => h) ?_ | refine vok_soft (by first | exact fun _ _ _ h _ => h | exact fun _ _ _ h k => owns_call h k | exact fun _ _ _ h k => ⟨h.choose, h.choose_spec.1, h.choose_spec.2.1.call k, h.choose_spec.2.2⟩ | exact fun _ _ _ h k => ⟨h.choose, h.choose_spec.1, owns_call h.choose_spec.2 k⟩ | exact fun _ _ _ h k => ⟨h.choose, h.choose_spec.choose, h.choose_spec.choose_spec.1, h.choose_spec.choose_spec.2.1.call k, h.choose_spec.choose_spec.2.2.1, owns_call h.choose_spec.choose_spec.2.2.2 k⟩) ?_
  · exact hF0
  · repeat first | exact all_end (by decide) | refine all_cons (by first | exact rfl | exact ⟨rfl, fun _ _ h => Or.inl h⟩ | exact ⟨rfl, fun _ _ h => Or.inr ⟨h, rfl⟩⟩) ?_
  · refine alla_old rfl (step_mild 0 rfl rfl rfl (fun a x W hout hin hP => ?_)) ?_
    · have e0 : a.tmps[0]? = some (.slice (some ⟨g, o, none⟩) (m + 8) cc) := (hout 0 (by kernel_rfl)).trans rfl
      exact does_move rfl e0 ⟨Same.refl _, rfl⟩
    refine alla_old rfl (step_mild 0 rfl rfl rfl (fun a x W hout hin hP => ?_)) ?_
    · have e11 := hin.is 0 11 (by kernel_rfl) (by decide) (by kernel_rfl) (by kernel_rfl) _ rfl
      clear hin hout
      intro K Q hK
      go_simp
      exact hK _ _ ⟨Same.refl _, rfl⟩
    refine alla_old rfl (step_mild 0 rfl rfl rfl (fun a x W hout hin hP => ?_)) ?_
    · have e12 := hin.is 1 12 (by kernel_rfl) (by decide) (by kernel_rfl) (by kernel_rfl) _ rfl
      have C := long_at g o (m + 8) cc q W hP.2.1 (by rw [HQL.out]; omega) (by omega) HCC.out
      rw [HI.out] at C
      clear hP
      clear hin hout
      intro K Q hK
      go_simp
      refine C.mono ?_
      rintro e W' ⟨rfl, hb⟩
      exact hK _ _ ⟨hb, rfl⟩
    refine alla_old rfl (step_mild 0 rfl rfl rfl (fun a x W hout hin hP => ?_)) ?_
    · have e13 := hin.is 2 13 (by kernel_rfl) (by decide) (by kernel_rfl) (by kernel_rfl) _ rfl
      have hw := i64_wd i
      clear hin hout
      intro K Q hK
      go_simp
      exact hK _ _ ⟨Same.refl _, rfl⟩
    refine alla_old rfl (step_mild 0 rfl rfl rfl (fun a x W hout hin hP => ?_)) ?_
    · have e0 : a.tmps[0]? = some (.slice (some ⟨g, o, none⟩) (m + 8) cc) := (hout 0 (by kernel_rfl)).trans rfl
      exact does_move rfl e0 ⟨Same.refl _, rfl⟩
    refine alla_old rfl (step_mild 0 rfl rfl rfl (fun a x W hout hin hP => ?_)) ?_
    · have e15 := hin.is 4 15 (by kernel_rfl) (by decide) (by kernel_rfl) (by kernel_rfl) _ rfl
      clear hin hout
      intro K Q hK
      go_simp
      exact hK _ _ ⟨Same.refl _, rfl⟩
    refine alla_old rfl (step_mild 0 rfl rfl rfl (fun a x W hout hin hP => ?_)) ?_
    · have e16 := hin.is 5 16 (by kernel_rfl) (by decide) (by kernel_rfl) (by kernel_rfl) _ rfl
      have hc : W.cell? ⟨g, o + 4, none⟩ = some (.int .u8 (bd x4)) := HX4.out ▸ hP.2.1.get 4 (by rw [HQL.out]; omega)
      clear hP
      clear hin hout
      intro K Q hK
      go_simp
      exact hK _ _ ⟨Same.refl _, rfl⟩
    refine alla_old rfl (step_mild 0 rfl rfl rfl (fun a x W hout hin hP => ?_)) ?_
    · have e17 := hin.is 6 17 (by kernel_rfl) (by decide) (by kernel_rfl) (by kernel_rfl) _ rfl
      have hw := i64_bd x4
      clear hin hout
      intro K Q hK
      go_simp
      exact hK _ _ ⟨Same.refl _, rfl⟩
    refine alla_old rfl (step_mild 0 rfl rfl rfl (fun a x W hout hin hP => ?_)) ?_
    · have e0 : a.tmps[0]? = some (.slice (some ⟨g, o, none⟩) (m + 8) cc) := (hout 0 (by kernel_rfl)).trans rfl
      exact does_move rfl e0 ⟨Same.refl _, rfl⟩
    refine alla_old rfl (step_mild 0 rfl rfl rfl (fun a x W hout hin hP => ?_)) ?_
    · have e0 : a.tmps[0]? = some (.slice (some ⟨g, o, none⟩) (m + 8) cc) := (hout 0 (by kernel_rfl)).trans rfl
      exact does_move rfl e0 ⟨Same.refl _, rfl⟩
    refine alla_old rfl (step_mild 0 rfl rfl rfl (fun a x W hout hin hP => ?_)) ?_
    · have e20 := hin.is 9 20 (by kernel_rfl) (by decide) (by kernel_rfl) (by kernel_rfl) _ rfl
      clear hin hout
      intro K Q hK
      go_simp
      exact hK _ _ ⟨Same.refl _, rfl⟩
    refine alla_old rfl (step_mild 0 rfl rfl rfl (fun a x W hout hin hP => ?_)) ?_
    · have e21 := hin.is 10 21 (by kernel_rfl) (by decide) (by kernel_rfl) (by kernel_rfl) _ rfl
      have hw : IntKind.i64.wrap ((m : Int) + 8 - 2) = (m : Int) + 6 := by rw [show (m : Int) + 8 - 2 = (m : Int) + 6 by omega]; exact i64_id _ (by omega) (by have := HM.out; omega)
      clear hin hout
      intro K Q hK
      go_simp
      exact hK _ _ ⟨Same.refl _, rfl⟩
    refine alla_old rfl (step_mild 0 rfl rfl rfl (fun a x W hout hin hP => ?_)) ?_
    · have e19 := hin.is 8 19 (by kernel_rfl) (by decide) (by kernel_rfl) (by kernel_rfl) _ rfl
      have e22 := hin.is 11 22 (by kernel_rfl) (by decide) (by kernel_rfl) (by kernel_rfl) _ rfl
      clear hin hout
      intro K Q hK
      go_simp
      exact hK _ _ ⟨Same.refl _, rfl⟩
    refine alla_old rfl (step_mild 0 rfl rfl rfl (fun a x W hout hin hP => ?_)) ?_
    · have e23 := hin.is 12 23 (by kernel_rfl) (by decide) (by kernel_rfl) (by kernel_rfl) _ rfl
      have HD6 : Slice W (.slice (some ⟨g, o + 6, none⟩) m (cc - 6)) d := HD.out ▸ ((hP.2.1.drop 6).take m).slice (by rw [HD.out]; exact HDL.out) (by have := HCC.out; omega)
      have hbse := hP.2.2
      have C := clone_any ⟨g, o + 6, none⟩ m (cc - 6) d HDL.out W HD6 (by have := HM.out; omega)
      clear hP HD6
      clear hin hout
      intro K Q hK
      go_simp
      refine C.mono ?_
      rintro e W' ⟨u, rfl, ho, hb⟩
      exact hK _ _ ⟨hb, own_base ho hbse⟩
    refine alla_old rfl (step_mild 0 rfl rfl rfl (fun a x W hout hin hP => ?_)) ?_
    · have e14 := hin.is 3 14 (by kernel_rfl) (by decide) (by kernel_rfl) (by kernel_rfl) _ rfl
      have e18 := hin.is 7 18 (by kernel_rfl) (by decide) (by kernel_rfl) (by kernel_rfl) _ rfl
      obtain ⟨v24, e24, hv24⟩ := hin.get 13 24 (by kernel_rfl) (by decide) (by kernel_rfl) (.inr ⟨rfl, by kernel_rfl⟩)
      clear hin hout hP
      intro K Q hK
      refine wp_buildStruct 31 _ rfl places_rep [.int .i64 (wd i), .int .i64 (bd x4), v24] ?_ ?_ ?_ ?_
      · simp only [List.map_toArray, List.map_cons, List.map_nil, eval_of_get e14, eval_of_get e18, eval_of_get e24]; rfl
      · obtain ⟨A5, c5, rfl, _⟩ := own_slice_form hv24; rfl
      · obtain ⟨A5, c5, rfl, _⟩ := own_slice_form hv24; rfl
      · obtain ⟨A5, c5, rfl, _⟩ := own_slice_form hv24; exact hK _ _ ⟨Same.refl _, _, rfl, hv24⟩
    refine alla_old rfl (step_mild 0 rfl rfl rfl (fun a x W hout hin hP => ?_)) ?_
    · have hbse := hP.2.2
      clear hP hin hout
      intro K Q hK
      have hz : (Try.prog.info? 31).bind (·.zero) = some (.agg (repCells 0 0 (.slice none 0 0))) := zero_rep
      refine wp_new_row 31 (repCells 0 0 (.slice none 0 0)) rfl hz ?_
      exact hK _ _ ⟨Same.alloc _ _, _, rfl, Row.fresh _ _ _, hbse⟩
    refine alla_wild 0 rfl rfl rfl (fun a x W hout hin hP => ?_) ?_
    · obtain ⟨hw15, hx15⟩ := hin 15 (by kernel_rfl) (by decide)
      have hw15 := hw15 (.inr ⟨rfl, by kernel_rfl⟩)
      have hx15 := hx15 4 (by kernel_rfl)
      obtain ⟨v25, e25, hv25⟩ := hin.get 14 25 (by kernel_rfl) (by decide) (by kernel_rfl) (.inr ⟨rfl, by kernel_rfl⟩)
      obtain ⟨g6, hg6, r6, hb6⟩ := hw15
      obtain ⟨u, rfl, hu⟩ := hv25
      rw [hg6] at hx15
      clear hin hout
      intro K Q hK
      obtain ⟨A5, c5, rfl, _⟩ := own_slice_form hu
      refine wp_store_row 31 (.tmp 4) (.tmp 25) rfl g6 (repCells (wd i) (bd x4) (.slice A5 m c5)) (eval_of_get hx15) (eval_of_get e25) 31 (repCells 0 0 (.slice none 0 0)) r6 (by exact size_rep) rfl (one_rep _ _ _ _ _) ?_
      have hgr := grown_setRow W g6 (repCells (wd i) (bd x4) (.slice A5 m c5))
      exact hK (x 15) _ ⟨⟨hP.1.far hgr (Nat.le_trans HB0.out hb6) (fun b hb => by have := HLT.out b hb; omega), hP.2.1.far hgr (by have := HGB.out; omega), Nat.le_trans hP.2.2 hgr.size⟩, ⟨g6, _, hg6, r6.setRow _, hb6, own_chg hu ((Chg.refl (fun k => k = g6) W).grown hgr (fun k e => by cases e; exact .inl rfl)) (own_apart hu r6 (by decide))⟩, al_one rfl rfl⟩
    exact all_end (by decide)
  · intro x W hP hV hal
    obtain ⟨g6, u, h8, r6, hb6, hu⟩ := hV 16 (by decide) (.inr (by kernel_rfl))
    have h7 : x 15 = .pointer (some ⟨g6, 0, none⟩) := (hal 16 (by decide) 15 rfl).symm.trans h8
    have HS := hP.1
    have HBA := Lib.hid hP.2.1
    obtain ⟨A5, c5, rfl, _⟩ := own_slice_form hu
    have R6 := Lib.hid r6
    have HU := Lib.hid hu
    have HW0 : Hid (B0 ≤ W.heap.size) := Lib.hid hP.2.2
    clear hV hP hal h8 r6 hb6 hu
    simp only [putL, Act.put, List.setIfInBounds_toArray, List.set_cons_succ, List.set_cons_zero, h7]
    simp only [Nat.zero_add, Nat.reduceAdd]
    refine wpAnyH_done (by kernel_rfl) ?_ _
    clear h7
    have HSU : Hid (Slice W (.slice A5 m c5) d) := Lib.hid (by have h := HU.out; rw [← HDL.out] at h ⊢; exact own_slice h)
    have HNU := Lib.hid (own_nil HU.out)
    have CE := repenc_good (wd i) (bd x4) A5 m c5 d HDL.out W HSU.out (fun e => HNU.out m c5 (by rw [e])) HMR.out
    go_wp2_with (first | ((with_reducible refine wpList_plain ?_ ?_); exact rfl; intro KK hKK; refine wp_load_row 31 (.tmp 4) rfl g6 rfl 31 (repCells (wd i) (bd x4) (.slice A5 m c5)) (0, 0) _ R6.out Try.underlying31 rfl (by exact size_rep) (hKK _ _ ?_); clear hKK KK))
    refine CE.mono ?_
    rintro e w5 ⟨v5, rfl, ho5, hb5⟩
    have HSx := HS.same hb5
    have R6x := Lib.hid (R6.out.call hb5)
    have HUx := Lib.hid (owns_call HU.out hb5)
    have HIN := Lib.hid ((HBA.out.call hb5).slice HQL.out HCC.out)
    have HV5 := Lib.hid (own_slice ho5)
    obtain ⟨A6, c6, rfl, _⟩ := own_slice_form ho5
    have HEQ := Lib.hid (equal_any (repB (wd i) (bd x4) d) q _ _ w5 HV5.out HIN.out)
    clear HS hb5 R6 HU CE HSU HNU HBA ho5 HV5 HIN
    have HS := HSx
    have R6 := R6x
    have HU := HUx
    clear HSx R6x HUx
    rw [decide_eq_true HBQ.out] at HEQ
    obtain ⟨ln, hln⟩ : ∃ ln, (repB (wd i) (bd x4) d).length = ln := ⟨_, rfl⟩
    rw [hln] at HEQ
    try rw [hln]
    clear hln
    go_wp2_with fail
    refine HEQ.out.mono ?_
    rintro e w6 ⟨rfl, rfl⟩
    clear HEQ
    go_wp2_with (first | ((with_reducible refine wpList_plain ?_ ?_); exact rfl; intro KK hKK; refine wp_load_row 31 (.tmp 4) rfl g6 rfl 31 (repCells (wd i) (bd x4) (.slice A5 m c5)) (0, 0) _ R6.out Try.underlying31 rfl (by exact size_rep) (hKK _ _ ?_); clear hKK KK) | ((with_reducible refine wpList_plain ?_ ?_); exact rfl; intro KK hKK; refine wp_store_row 31 (.tmp 2) (.tmp 40) rfl g2 (repCells (wd i) (bd x4) (.slice A5 m c5)) rfl rfl 31 (repCells 0 0 (.slice none 0 0)) (HS.row 0 rfl) (by exact size_rep) rfl (one_rep _ _ _ _ _) (hKK _ _ ?_); clear hKK KK; have hgr := grown_setRow w5 g2 (repCells (wd i) (bd x4) (.slice A5 m c5)); have HU2 := Lib.hid (own_chg HU.out ((Chg.refl (fun k => k = g2) w5).grown hgr (fun k e => by cases e; exact .inl rfl)) (own_apart (t := 31) HU.out (HS.row 0 rfl) (by decide))); have R2 := Lib.hid ((HS.row 0 rfl).setRow (repCells (wd i) (bd x4) (.slice A5 m c5))); have HB2 := Lib.hid (HS.below.trans (below_only hgr (by rcases HS.own 0 _ rfl with h | h; exact (show False from h).elim; exact h) HS.below.size)); clear hgr HS HU R6))
    exact bodyPost_ret (v := .tuple #[.agg (repCells (wd i) (bd x4) (.slice A5 m c5)), .int .i64 0]) (results_cell_tmp Try.results15 _ _ g2 31 (repCells (wd i) (bd x4) (.slice A5 m c5)) (0, 0) _ rfl R2.out Try.underlying31 rfl (by exact size_rep)) rfl ⟨_, rfl, own_base HU2.out HB0.out, HB2.out⟩
end Go.Proofs.Ytamofhjnpahamaa
