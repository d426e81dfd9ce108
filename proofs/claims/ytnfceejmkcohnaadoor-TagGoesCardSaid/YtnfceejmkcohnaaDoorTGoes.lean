/- The statement TagGoes: its walk. -/
import Derived.Test.YtnfceejmkcohnaaDoorTagWakes
import Derived.Test.YtnfceejmkcohnaaDoorDgs
import Derived.Test.YtnfceejmkcohnaaDoorOpenCh2
import Derived.Deep.DeepCutAuto
namespace Go.Proofs.YtnfceejmkcohnaaDoor
open Go Go.RowKit
def dgo (B : Nat) (ds : List (List (BitVec 8))) : Value → World → Prop := fun v w => Digs w v ds ∧ ∀ a m c, v = .slice (some a) m c → B ≤ a.block
theorem dgo_stays (B g : Nat) (ds : List (List (BitVec 8))) : Stays B (dgo g ds) := fun _ _ _ h k => ⟨k.digs h.1, h.2⟩
theorem chain_take (h : List (BitVec 8)) (rs : List (List (BitVec 8))) (k : Nat) (hk : k ≤ rs.length) : chainOf h (rs.take k) (rs.take k).length = chainOf h rs k := by
  rw [List.length_take, Nat.min_eq_left hk]
  unfold chainOf
  refine List.map_congr_left fun i hi => ?_
  exact linkAt_take h rs k (i + 1) (List.mem_range.1 hi)
theorem chain_drop (h : List (BitVec 8)) (rs : List (List (BitVec 8))) (k : Nat) : chainOf (linkAt h rs k) (rs.drop k) (rs.drop k).length = (List.range (rs.length - k)).map fun j => linkAt h rs (k + j + 1) := by
  rw [List.length_drop]
  unfold chainOf
  refine List.map_congr_left fun i _ => ?_
  rw [linkAt_drop]; rfl
theorem only_cell {w w' : World} {g : Nat} (h : w.grownBy w' (some g)) {p : Addr} (hp : p.block < w.heap.size) (hne : p.block ≠ g) : w'.cell? p = w.cell? p :=
  World.cell?_of_block (w := w) (h.block p.block hp (fun e => hne (by injection e)))
set_option maxRecDepth 20000 in
set_option maxHeartbeats 1600000 in
theorem goes_walk (h : List (BitVec 8)) (u : Value) (rs0 : List (List (BitVec 8))) (m : Int) (w : World) (hT : Tab w)
    (hh : h.length = 32) (hv : Hand w u rs0) (hn : rs0.length ≤ maxLen) (hnil : (∀ n c, u = .slice none n c → c = 0) ∧ ∀ A n c, u = .slice A n c → n ≤ c) (wm : (Lit.int .u8 m).wf = true) :
    Calls Tryd.prog 4 #[.agg (chCells h u), .int .u8 m] w fun e w' => e = .returned (.bool true) ∧ Below w.heap.size w w' := by
  have hb8 := Go.bounds_u8 wm
  have HT := Lib.hid hT
  have HLh := Lib.hid hh
  have HV := Lib.hid hv
  have HN0 := Lib.hid hn
  obtain ⟨A, c, rfl, hpp⟩ := hv
  have HPP := Lib.hid hpp
  have hnc0 := hnil.2 _ _ _ rfl
  have HNIL := Lib.hid (hnil.1)
  have hb1 := (Below.refl w.heap.size w).alloc (Nat.le_refl _) (.cells (chCells h (.slice A rs0.length c)) 27)
  have rc1 := Row.fresh w 27 (chCells h (.slice A rs0.length c))
  have cu := ch_list rc1 hh
  have HRC1 := Lib.hid rc1
  clear hT hn hnil rc1 hpp wm
  obtain ⟨n, hN⟩ : ∃ n, rs0.length = n := ⟨_, rfl⟩
  have HN := Lib.hid hN
  rw [hN] at cu HRC1 HV HNIL hb1 hnc0 ⊢
  go_enter Tryd.func4, Tryd.ntmps4
  go_wp2_with fail
  refine (fair_any rs0 _ (w.alloc (.cells (chCells h (.slice A n c)) 27)) (HV.out.below hb1 (Nat.le_refl _)) HN0.out).mono ?_
  rintro e w1 ⟨bf, rfl, hf, rfl⟩
  cases bf with
  | false =>
    go_wp2_with fail
    refine (twakes_any _ (HT.out.below hb1 HT.out.pos)).mono ?_
    rintro e w2 ⟨rfl, hb⟩
    go_wp2_with fail
    go_ret
    exact ⟨rfl, hb1.trans (hb.mono (by simp))⟩
  | true =>
    obtain ⟨hn60, hM⟩ := hf rfl
    clear hf
    rw [hN] at hn60
    have HQ0 : Hid (∀ q ∈ rs0, q.length ≤ 1000000) := Lib.hid fun q hq => by have := mem_flat rs0 q hq; omega
    have e0 := i64_id m (by omega) (by omega)
    have e1 : m.tmod ((n : Int) + 1) = ((m.toNat % (n + 1) : Nat) : Int) := tmod_nat _ hb8.1 _
    have hkl : m.toNat % (n + 1) ≤ n := by have := Nat.mod_lt m.toNat (show 0 < n + 1 by omega); omega
    generalize m.toNat % (n + 1) = k at *
    have z1 : ¬ ((n : Int) + 1 = 0) := by omega
    have HQ9 := HQ0
    have HQ6 : Hid (∀ q ∈ rs0.take k, q.length ≤ 1000000) := Lib.hid fun q hq => HQ0.out q (List.mem_of_mem_take hq)
    have HQ8 : Hid (∀ q ∈ rs0.drop k, q.length ≤ 1000000) := Lib.hid fun q hq => HQ0.out q (List.mem_of_mem_drop hq)
    have HC6 := Lib.hid (chain_take h rs0 k (by omega))
    have HC8 := Lib.hid (chain_drop h rs0 k)
    have HC9 : Hid (chainOf h rs0 rs0.length = (List.range n).map fun j => linkAt h rs0 (j + 1)) := Lib.hid (by rw [hN]; rfl)
    have HL32 := Lib.hid (length_linkAt h rs0 hh)
    have HST0 : Hid (∀ i q, rs0[i]? = some q → sha (linkAt h rs0 i ++ q) = linkAt h rs0 (i + 1)) := Lib.hid fun i q hq => by rw [linkAt, List.getD_eq_getElem?_getD, hq]; rfl
    have HL0 : h = linkAt h rs0 0 := rfl
    have HP6 : Hid (Parts w (.slice A k c) (rs0.take k)) := Lib.hid (HV.out.parts.take hN hkl)
    obtain ⟨nk, hnk⟩ : ∃ nk, n - k = nk := ⟨_, rfl⟩
    have hnkI : (n : Int) - (k : Int) = (nk : Int) := by omega
    obtain ⟨A', hA'⟩ : ∃ A', (if c = k then A else A.map (·.add k)) = A' := ⟨_, rfl⟩
    have HP8 : Hid (Parts w (.slice A' nk (c - k)) (rs0.drop k)) := Lib.hid (by
      have h1 := HV.out.parts.drop hN hnc0 hkl
      rwa [hA', hnk] at h1)
    have HD6g : Hid (∀ i, i < k → (chainOf h rs0 k)[i]? = some (linkAt h rs0 (i + 1))) := Lib.hid fun i hi => chainOf_get h rs0 k i hi
    have HD6 : Hid ((chainOf h rs0 k).length = k) := Lib.hid (length_chainOf _ _ _)
    obtain ⟨D6, hD6⟩ : ∃ D6, chainOf h rs0 k = D6 := ⟨_, rfl⟩
    rw [hD6] at HC6 HD6g HD6
    obtain ⟨D8, hD8⟩ : ∃ D8, ((List.range (rs0.length - k)).map fun j => linkAt h rs0 (k + j + 1)) = D8 := ⟨_, rfl⟩
    have HD8 : Hid (D8.length = nk) := Lib.hid (by rw [← hD8]; simp [hN, hnk])
    have HD8g : Hid (∀ j, j < nk → D8[j]? = some (linkAt h rs0 (k + j + 1))) := Lib.hid fun j hj => by rw [← hD8]; simp [hN, hnk, hj]
    rw [hD8] at HC8
    obtain ⟨D9, hD9⟩ : ∃ D9, ((List.range n).map fun j => linkAt h rs0 (j + 1)) = D9 := ⟨_, rfl⟩
    have HD9 : Hid (D9.length = n) := Lib.hid (by rw [← hD9]; simp)
    have HD9g : Hid (∀ j, j < n → D9[j]? = some (linkAt h rs0 (j + 1))) := Lib.hid fun j hj => by rw [← hD9]; simp [hj]
    rw [hD9] at HC9
    clear hD6 hD8 hD9 HQ0 hM
    rw [HL0] at cu HRC1 hb1 HC6 HC9 HLh ⊢
    generalize hLg : linkAt h rs0 = L at *
    clear hLg
    have hb01 := hb1
    have HRC := HRC1
    clear hb1 HRC1
    generalize w.alloc (.cells (chCells (L 0) (.slice A n c)) 27) = w1 at *
    have hk0 : (0 : Int) ≤ (k : Int) := by omega
    have hk2 : (k : Int) ≤ (n : Int) := by omega
    have hkc : (k : Int) ≤ (c : Int) := by omega
    have hlc : (n : Int) ≤ (c : Int) := by omega
    go_wp2_with fail
    clear cu e0 e1 z1
    refine wp_region_vs (w1.heap.size) [is (.pointer (some ⟨w.heap.size, 0, none⟩)), is (.agg (bs (L 0))), is (.pointer (some ⟨w.heap.size, 32, none⟩)), is (.slice A n c), is (.int .i64 (k : Int)), is (.slice A k c), (dgs D6), (dgs D6)] [some 23, some 24, some 25, some 26, some 27, some 28, some 29, some 6] 8 8 (fun _ => true) rfl rfl rfl (by kernel_rfl) (by kernel_rfl) ?_ ?_ ?_ ?_
    · repeat first | exact stays_nil _ | refine stays_cons (by first | exact is_stays _ _ | exact lit_stays _ _ | exact sl_stays _ _ | exact pts_stays _ _ | exact hnd_stays _ _ | exact any_stays _ | exact dgs_stays _ _) ?_
    · repeat first | exact all_end (by decide) | refine all_cons (by first | exact rfl | exact fun _ _ _ h => h) ?_
    · refine all_step rfl (fun a x W hR hout hin => ?_) ?_
      · have e2 : a.tmps[2]? = some (.pointer (some ⟨w.heap.size, 0, none⟩)) := (hout 2 (by kernel_rfl)).trans rfl
        clear hin hout
        intro K Q hK
        go_simp
        exact hK _ _ ⟨Keeps.refl _ _, rfl⟩
      refine all_step rfl (fun a x W hR hout hin => ?_) ?_
      · have e23 := hin.is 0 23 (by kernel_rfl) (by decide) (by kernel_rfl) _ rfl
        clear hin hout
        intro K Q hK
        refine wp_load_mid 24 (.tmp 23) rfl w.heap.size (0) (eval_of_get e23) (bs (L 0)).toList _ (fun j u hu => hR.cell (a := ⟨w.heap.size, 0 + j, none⟩) ((ch_head HRC.out) j u hu)) Tryd.underlying24 rfl (by rw [len_bs, HL32.out]; exact size_d) ?_
        exact hK _ _ ⟨Keeps.refl _ _, by simp [Vs, is]⟩
      refine all_step rfl (fun a x W hR hout hin => ?_) ?_
      · have e2 : a.tmps[2]? = some (.pointer (some ⟨w.heap.size, 0, none⟩)) := (hout 2 (by kernel_rfl)).trans rfl
        clear hin hout
        intro K Q hK
        go_simp
        exact hK _ _ ⟨Keeps.refl _ _, rfl⟩
      refine all_step rfl (fun a x W hR hout hin => ?_) ?_
      · have e25 := hin.is 2 25 (by kernel_rfl) (by decide) (by kernel_rfl) _ rfl
        have hu4 : W.cell? ⟨w.heap.size, 32, none⟩ = some (.slice A n c) := hR.cell (a := ⟨w.heap.size, 32, none⟩) (ch_list HRC.out HLh.out)
        clear hin hout
        intro K Q hK
        go_simp
        exact hK _ _ ⟨Keeps.refl _ _, rfl⟩
      refine all_step rfl (fun a x W hR hout hin => ?_) ?_
      · have e5 : a.tmps[5]? = some (.int .i64 (k : Int)) := (hout 5 (by kernel_rfl)).trans rfl
        exact does_move rfl e5 ⟨Keeps.refl _ _, rfl⟩
      refine all_step rfl (fun a x W hR hout hin => ?_) ?_
      · have e26 := hin.is 3 26 (by kernel_rfl) (by decide) (by kernel_rfl) _ rfl
        have e27 := hin.is 4 27 (by kernel_rfl) (by decide) (by kernel_rfl) _ rfl
        clear hin hout
        intro K Q hK
        go_simp
        exact hK _ _ ⟨Keeps.refl _ _, rfl⟩
      refine all_step rfl (fun a x W hR hout hin => ?_) ?_
      · have e24 := hin.is 1 24 (by kernel_rfl) (by decide) (by kernel_rfl) _ rfl
        have e28 := hin.is 5 28 (by kernel_rfl) (by decide) (by kernel_rfl) _ rfl
        have hT : Tab W := HT.out.below (hb01.trans ((Below.refl w.heap.size w1).drew.trans (hR.below.mono hb01.size))) HT.out.pos
        have hp : Parts W (.slice A k c) (rs0.take k) := HP6.out.below (hb01.trans ((Below.refl w.heap.size w1).drew.trans (hR.below.mono hb01.size))) (Nat.le_refl _)
        clear hin hout
        intro K Q hK
        go_simp
        refine (chain_any (L 0) (rs0.take k) _ W hT (HL32.out 0) hp (by rw [List.length_take]; omega) HQ6.out).mono ?_
        rintro e W' ⟨u', rfl, hD, hb⟩
        rw [HC6.out] at hD
        exact hK _ _ ⟨Keeps.call hb hR.below.size, hD⟩
      refine all_step rfl (fun a x W hR hout hin => ?_) ?_
      · obtain ⟨v29, e29, hv29⟩ := hin.get 6 29 (by kernel_rfl) (by decide) (by kernel_rfl)
        exact does_assign rfl e29 ⟨Keeps.refl _ _, hv29⟩
      exact all_end (by decide)
    · intro x w2 hKW hV
      have hx7 : Digs w2 (x 7) D6 := hV 7 (by decide)
      clear hV
      obtain ⟨A6, c6, e6, hD6⟩ := hx7
      simp only [putL, Act.put, List.setIfInBounds_toArray, List.set_cons_succ, List.set_cons_zero, e6]
      refine wpAnyH_done (by kernel_rfl) ?_ _
      rw [HD6.out]
      have hb02 := hb01.trans ((Below.refl w.heap.size w1).drew.trans (hKW.below.mono hb01.size))
      have HRC2 := Lib.hid (HRC.out.drew.below hKW.below HRC.out.lt)
      have HG6 := Lib.hid hD6
      have rh2 := ch_head HRC2.out
      have hg7 : w.heap.size < w2.heap.size := HRC2.out.lt
      clear hKW hD6 e6 HRC hb01
      have r7 := Row.fresh w2 24 (bs (L 0))
      have HR7 := Lib.hid r7
      have hb03 := hb02.alloc hb02.size (.cells (bs (L 0)) 24)
      clear r7
      go_upto_if 37 with (first | (refine wpList_load_mid rfl 24 _ rfl w.heap.size 0 rfl (bs (L 0)).toList _ rh2 Tryd.underlying24 rfl (by rw [len_bs, HL32.out]; exact size_d) ?_; simp only [Array.toArray_toList]) | (refine wpList_store_row rfl 24 _ _ rfl w2.heap.size (bs (L 0)) rfl rfl 24 _ (Row.fresh _ _ _) (by rw [size_bs, HL32.out]; exact size_d) (by rw [size_bs, HL32.out]; rfl) (one_bs _) ?_; rw [World.setRow_alloc_new]))
      go_cut [] (fun wx => Row wx w2.heap.size 24 (bs (L k)) ∧ (w2.alloc (.cells (bs (L 0)) 24)).grownBy wx (some w2.heap.size))
      case first =>
        by_cases hkp : 0 < k
        · have hne : D6 ≠ [] := by intro e; have := HD6.out; rw [e] at this; simp at this; omega
          obtain ⟨b6, o6, rfl, hl6, hr6⟩ := HG6.out hne
          have hr6' := hr6 (k - 1) (L k) (by rw [HD6g.out (k - 1) (by omega), show k - 1 + 1 = k by omega])
          have r6 : (w2.alloc (.cells (bs (L 0)) 24)).rangeAt b6 (o6 + (k - 1) * 32) (bs (L k)).toList := fun j v hv => (World.cell?_alloc_lt w2 _ ⟨b6, o6 + (k - 1) * 32 + j, none⟩ hl6).trans (hr6' j v hv)
          have hd : decide ((0 : Int) < (k : Int)) = true := decide_eq_true (by omega)
          have hd1 : (0 : Int) ≤ (k : Int) - 1 := by omega
          have hd2 : (k : Int) - 1 < (k : Int) := by omega
          have hd3 : ((k : Int) - 1).toNat = k - 1 := by omega
          have r70 := HR7.out
          clear hr6 hr6' hne
          go_wp2_with (first | (refine wpList_load_mid rfl 24 _ rfl b6 (o6 + (k - 1) * 32) rfl (bs (L k)).toList _ r6 Tryd.underlying24 rfl (by rw [len_bs, HL32.out]; exact size_d) ?_; simp only [Array.toArray_toList]) | (refine wpList_store_row rfl 24 _ _ rfl w2.heap.size (bs (L k)) rfl rfl 24 _ r70 (by rw [size_bs, HL32.out]; exact size_d) (by rw [size_bs, size_bs, HL32.out, HL32.out]) (one_bs _) ?_))
          go_meet
          exact ⟨HR7.out.setRow _, only_setRow (only_refl _ _) _⟩
        · obtain rfl : k = 0 := by omega
          go_wp2_with fail
          go_meet
          exact ⟨HR7.out, only_refl _ _⟩
      case rest =>
      obtain ⟨r7c, ho⟩ := hcut
      have hb04 := hb03.trans (only_below ho (Nat.le_of_lt hg7) (Nat.le_trans (Nat.le_of_lt hg7) (by simp)))
      have HRC := Lib.hid ((HRC2.out.alloc (.cells (bs (L 0)) 24)).only ho (Nat.ne_of_lt hg7))
      have hq2c : Below w2.heap.size w2 wc := ((Below.refl w2.heap.size w2).alloc (Nat.le_refl _) _).trans (only_below ho (Nat.le_refl _) (by simp))
      have R7 : Hid (wc.rangeAt w2.heap.size 0 (bs (L k)).toList) := Lib.hid fun j v hv => by rw [Nat.zero_add, r7c.cell]; simpa using hv
      have R7r := Lib.hid r7c
      have hg74 : w2.heap.size < wc.heap.size := r7c.lt
      clear r7c ho hb03 HRC2 HR7 rh2 hb02
      go_wp2_with fail
      refine wp_region_vs (wc.heap.size) [is (.agg (bs (L k))), is (.pointer (some ⟨w.heap.size, 32, none⟩)), is (.slice A n c), is (.int .i64 (k : Int)), is ((.slice A' nk (c - k))), (dgo (w2.heap.size + 1) D8), (dgo (w2.heap.size + 1) D8)] [some 43, some 44, some 45, some 46, some 47, some 48, some 8] 7 7 (fun _ => true) rfl rfl rfl (by kernel_rfl) (by kernel_rfl) ?_ ?_ ?_ ?_
      · repeat first | exact stays_nil _ | refine stays_cons (by first | exact is_stays _ _ | exact lit_stays _ _ | exact sl_stays _ _ | exact pts_stays _ _ | exact hnd_stays _ _ | exact any_stays _ | exact dgo_stays _ _ _) ?_
      · repeat first | exact all_end (by decide) | refine all_cons (by first | exact rfl | exact fun _ _ _ h => h) ?_
      · refine all_step rfl (fun a x W hR hout hin => ?_) ?_
        · have e7 : a.tmps[7]? = some (.pointer (some ⟨w2.heap.size, 0, none⟩)) := (hout 7 (by kernel_rfl)).trans rfl
          clear hin hout
          intro K Q hK
          refine wp_load_mid 24 (.tmp 7) rfl w2.heap.size (0) (eval_of_get e7) (bs (L k)).toList _ (fun j u hu => hR.cell (a := ⟨w2.heap.size, 0 + j, none⟩) (R7.out j u hu)) Tryd.underlying24 rfl (by rw [len_bs, HL32.out]; exact size_d) ?_
          exact hK _ _ ⟨Keeps.refl _ _, by simp [Vs, is]⟩
        refine all_step rfl (fun a x W hR hout hin => ?_) ?_
        · have e2 : a.tmps[2]? = some (.pointer (some ⟨w.heap.size, 0, none⟩)) := (hout 2 (by kernel_rfl)).trans rfl
          clear hin hout
          intro K Q hK
          go_simp
          exact hK _ _ ⟨Keeps.refl _ _, rfl⟩
        refine all_step rfl (fun a x W hR hout hin => ?_) ?_
        · have e44 := hin.is 1 44 (by kernel_rfl) (by decide) (by kernel_rfl) _ rfl
          have hu4 : W.cell? ⟨w.heap.size, 32, none⟩ = some (.slice A n c) := hR.cell (a := ⟨w.heap.size, 32, none⟩) (ch_list HRC.out HLh.out)
          clear hin hout
          intro K Q hK
          go_simp
          exact hK _ _ ⟨Keeps.refl _ _, rfl⟩
        refine all_step rfl (fun a x W hR hout hin => ?_) ?_
        · have e5 : a.tmps[5]? = some (.int .i64 (k : Int)) := (hout 5 (by kernel_rfl)).trans rfl
          exact does_move rfl e5 ⟨Keeps.refl _ _, rfl⟩
        refine all_step rfl (fun a x W hR hout hin => ?_) ?_
        · have e45 := hin.is 2 45 (by kernel_rfl) (by decide) (by kernel_rfl) _ rfl
          have e46 := hin.is 3 46 (by kernel_rfl) (by decide) (by kernel_rfl) _ rfl
          clear hin hout
          intro K Q hK
          go_simp
          exact hK _ _ ⟨Keeps.refl _ _, rfl⟩
        refine all_step rfl (fun a x W hR hout hin => ?_) ?_
        · have e43 := hin.is 0 43 (by kernel_rfl) (by decide) (by kernel_rfl) _ rfl
          have e47 := hin.is 4 47 (by kernel_rfl) (by decide) (by kernel_rfl) _ rfl
          have hT : Tab W := HT.out.below (hb04.trans ((Below.refl w.heap.size wc).drew.trans (hR.below.mono hb04.size))) HT.out.pos
          have hp : Parts W (.slice A' nk (c - k)) (rs0.drop k) := HP8.out.below (hb04.trans ((Below.refl w.heap.size wc).drew.trans (hR.below.mono hb04.size))) (Nat.le_refl _)
          clear hin hout
          intro K Q hK
          go_simp
          refine (chain_own (L k) (rs0.drop k) _ W hT (HL32.out k) hp (by rw [List.length_drop]; omega) HQ8.out).mono ?_
          rintro e W' ⟨u', rfl, ⟨hD, hF⟩, hb⟩
          rw [HC8.out] at hD
          exact hK _ _ ⟨Keeps.call hb hR.below.size, hD, fun a m c e => by have h1 := hF a m c e; have h2 := hR.below.size; have h3 : w2.heap.size < wc.heap.size := hg74; exact Nat.le_trans (Nat.le_trans h3 h2) (Nat.le_of_lt h1)⟩
        refine all_step rfl (fun a x W hR hout hin => ?_) ?_
        · obtain ⟨v48, e48, hv48⟩ := hin.get 5 48 (by kernel_rfl) (by decide) (by kernel_rfl)
          exact does_assign rfl e48 ⟨Keeps.refl _ _, hv48⟩
        exact all_end (by decide)
      · intro x w5 hKW hV
        have hx6 : Digs w5 (x 6) D8 ∧ ∀ a m c, x 6 = .slice (some a) m c → w2.heap.size + 1 ≤ a.block := hV 6 (by decide)
        clear hV
        obtain ⟨⟨A8, c8, e8, hD8⟩, hF8⟩ := hx6
        simp only [putL, Act.put, List.setIfInBounds_toArray, List.set_cons_succ, List.set_cons_zero, e8]
        refine wpAnyH_done (by kernel_rfl) ?_ _
        rw [e8] at hF8
        rw [HD8.out] at hF8 ⊢
        have hb05 := hb04.trans ((Below.refl w.heap.size wc).drew.trans (hKW.below.mono hb04.size))
        have hq45 : Below wc.heap.size wc w5 := (Below.refl wc.heap.size wc).drew.trans hKW.below
        have HRC5 := Lib.hid (HRC.out.call hq45)
        have R75 := Lib.hid (R7r.out.call hq45)
        have HG8 := Lib.hid hD8
        have HF8 := Lib.hid hF8
        clear hKW hD8 e8 hF8
        have rh5 := ch_head HRC5.out
        have cu5 := ch_list HRC5.out HLh.out
        have hq25 : Below w2.heap.size w2 w5 := hq2c.trans (hq45.mono (Nat.le_of_lt hg74))
        clear HRC R7 R7r hq2c hb04
        go_wp2_with (first | (refine wpList_load_mid rfl 24 _ rfl w.heap.size 0 rfl (bs (L 0)).toList _ rh5 Tryd.underlying24 rfl (by rw [len_bs, HL32.out]; exact size_d) ?_; simp only [Array.toArray_toList]))
        refine (chain_own (L 0) rs0 _ w5 (HT.out.below hb05 HT.out.pos) (HL32.out 0) (HV.out.parts.below hb05 (Nat.le_refl _)) (by rw [HN.out]; omega) HQ9.out).mono ?_
        rintro e w6 ⟨u9, rfl, ⟨hD9, hF9⟩, hb6⟩
        rw [HC9.out] at hD9
        obtain ⟨A9, c9, rfl, hD9⟩ := hD9
        rw [HD9.out] at hF9 ⊢
        have HG9 := Lib.hid hD9
        have HF9 := Lib.hid hF9
        have r76 := R75.out.call hb6
        have HRC6 := Lib.hid (HRC5.out.call hb6)
        have rh6 := ch_head HRC6.out
        have cu6 := ch_list HRC6.out HLh.out
        have hq26 := Lib.hid (hq25.trans (hb6.mono hq25.size))
        have HB56 := Lib.hid hb6
        have hb06 := hb05.trans (hb6.mono hb05.size)
        have hg75 : w2.heap.size < w5.heap.size := R75.out.lt
        have HR76 := Lib.hid (r76.setRow (bs (L 0)))
        have hnb : (((nk : Nat) : Int) != (n : Int) - (k : Int)) = false := by rw [hnkI]; simp
        clear hD9 hF9 R75 HRC5 rh5 cu5 hq25 hb6 hb05
        go_wp2_with (first | (refine wpList_load_mid rfl 24 _ rfl w.heap.size 0 rfl (bs (L 0)).toList _ rh6 Tryd.underlying24 rfl (by rw [len_bs, HL32.out]; exact size_d) ?_; simp only [Array.toArray_toList]) | (refine wpList_store_row rfl 24 _ _ rfl w2.heap.size (bs (L 0)) rfl rfl 24 _ r76 (by rw [size_bs, HL32.out]; exact size_d) (by rw [size_bs, size_bs, HL32.out, HL32.out]) (one_bs _) ?_))
        go_loopw [10] (fun z wr => ∃ i : Nat, i ≤ n ∧ z = .int .i64 i ∧ w6.grownBy wr (some w2.heap.size) ∧ Row wr w2.heap.size 24 (bs (L i))) (fun z _ => n - (intOf z).toNat)
        case atStart => exact ⟨0, by omega, rfl, only_setRow (only_refl _ _) _, HR76.out⟩
        case round =>
          clear HR76 r76 rh6 cu6
          obtain ⟨i, hi, rfl, hor, r7r⟩ := hrel
          have hb0r := hb06.trans (only_below hor (Nat.le_of_lt hg7) hb06.size)
          have HRC := Lib.hid (HRC6.out.only hor (Nat.ne_of_lt hg7))
          by_cases hlt : i < n
          · have hrs : i < rs0.length := by rw [HN.out]; exact hlt
            obtain ⟨bu, ou, rfl, hbl, hc⟩ := HPP.out (by intro e; rw [e] at hrs; simp at hrs)
            obtain ⟨uq, huq, hI⟩ := hc i rs0[i] (List.getElem?_eq_getElem hrs)
            have hS := hI.slice
            obtain ⟨Ai, ci, rfl, _⟩ := hI
            have HU := Lib.hid ((hb0r.cell (p := ⟨bu, ou + i, none⟩) hbl).trans huq)
            have HSq := Lib.hid (hS.below hb0r (Nat.le_refl _))
            have hql := HQ9.out rs0[i] (List.getElem_mem hrs)
            have HST := Lib.hid (HST0.out i rs0[i] (List.getElem?_eq_getElem hrs))
            have hne9 : D9 ≠ [] := by intro e; have := HD9.out; rw [e] at this; simp at this; omega
            obtain ⟨b9, o9, rfl, hl9, hr9⟩ := HG9.out hne9
            have hf9 : w5.heap.size < b9 := HF9.out _ _ _ rfl
            have R9 : Hid (wr.rangeAt b9 (o9 + i * 32) (bs (L (i + 1))).toList) := Lib.hid fun j v hv => (only_cell hor (p := ⟨b9, o9 + i * 32 + j, none⟩) hl9 (Nat.ne_of_gt (Nat.lt_trans hg75 hf9))).trans (hr9 i (L (i + 1)) (HD9g.out i hlt) j v hv)
            have R7r := Lib.hid r7r
            have R7 : Hid (wr.rangeAt w2.heap.size 0 (bs (L i)).toList) := Lib.hid fun j v hv => by rw [Nat.zero_add, R7r.out.cell]; simpa using hv
            have hi0 : (0 : Int) ≤ (i : Int) := by omega
            have hi1 : (i : Int) < (n : Int) := by omega
            clear hc huq hS r7r hne9 hr9
            generalize rs0[i] = q at *
            clear hrs
            by_cases hik : i < k
            · have hne6 : D6 ≠ [] := by intro e; have := HD6.out; rw [e] at this; simp at this; omega
              obtain ⟨b6, o6, rfl, hl6, hr6⟩ := HG6.out hne6
              have R6 : Hid (wr.rangeAt b6 (o6 + i * 32) (bs (L (i + 1))).toList) := Lib.hid fun j v hv => (only_cell hor (p := ⟨b6, o6 + i * 32 + j, none⟩) (Nat.lt_of_lt_of_le hl6 hq26.out.size) (Nat.ne_of_lt hl6)).trans ((hq26.out.cell (p := ⟨b6, o6 + i * 32 + j, none⟩) hl6).trans (hr6 i (L (i + 1)) (HD6g.out i hik) j v hv))
              have hik1 : (i : Int) < (k : Int) := by omega
              have hdl : decide ((i : Int) < (k : Int)) = true := decide_eq_true hik1
              have hdg : decide ((k : Int) ≤ (i : Int)) = false := decide_eq_false (by omega)
              clear hr6 hne6
              go_wp2_with fail
              refine wp_region_vs (wr.heap.size) [is (.int .i64 (i : Int)), is (.int .i64 (k : Int)), is (.bool true), is (.bool true), is (.slice (some ⟨b9, o9, none⟩) n c9), is (.int .i64 (i : Int)), is (.pointer (some ⟨b9, o9 + i * 32, none⟩)), is (.agg (bs (L (i + 1)))), is (.slice (some ⟨b6, o6, none⟩) k c6), is (.int .i64 (i : Int)), is (.pointer (some ⟨b6, o6 + i * 32, none⟩)), is (.agg (bs (L (i + 1)))), is (.bool false), is (.bool false), is (.bool false), is (.int .i64 (i : Int)), is (.int .i64 (k : Int)), is (.bool false), is (.bool false), anyV, anyV, anyV, anyV, anyV, anyV, anyV, anyV, anyV, anyV, anyV, is (.bool false), is (.bool false), is (.bool false), is (.slice (some ⟨b9, o9, none⟩) n c9), is (.int .i64 (i : Int)), is (.pointer (some ⟨b9, o9 + i * 32, none⟩)), is (.agg (bs (L (i + 1)))), is (.agg (bs (L i))), is (.pointer (some ⟨w.heap.size, 32, none⟩)), is (.slice (some ⟨bu, ou, none⟩) n c), is (.int .i64 (i : Int)), is (.pointer (some ⟨bu, ou + i, none⟩)), is (.slice Ai q.length ci), pts [q], is (.agg (bs (L (i + 1)))), is (.bool false), is (.bool false)] [some 78, some 79, some 80, some 81, some 82, some 83, some 84, some 85, some 86, some 87, some 88, some 89, some 90, some 91, some 92, some 93, some 94, some 95, some 96, some 97, some 98, some 99, some 100, some 101, some 102, some 103, some 104, some 105, some 106, some 107, some 108, some 109, some 110, some 111, some 112, some 113, some 114, some 115, some 116, some 117, some 118, some 119, some 120, some 121, some 122, some 123, some 124] 47 47 (fun i => !([19, 20, 21, 22, 23, 24, 25, 26, 27, 28, 29] : List Nat).contains i) rfl rfl rfl (by kernel_rfl) (by kernel_rfl) ?_ ?_ ?_ ?_
              · repeat first | exact stays_nil _ | refine stays_cons (by first | exact is_stays _ _ | exact lit_stays _ _ | exact sl_stays _ _ | exact pts_stays _ _ | exact hnd_stays _ _ | exact any_stays _) ?_
              · repeat first | exact all_end (by decide) | refine all_cons (by first | exact rfl | exact fun _ _ _ h => h) ?_
              · refine all_step rfl (fun a x W hR hout hin => ?_) ?_
                · have e10 : a.tmps[10]? = some (.int .i64 (i : Int)) := (hout 10 (by kernel_rfl)).trans rfl
                  exact does_move rfl e10 ⟨Keeps.refl _ _, rfl⟩
                refine all_step rfl (fun a x W hR hout hin => ?_) ?_
                · have e5 : a.tmps[5]? = some (.int .i64 (k : Int)) := (hout 5 (by kernel_rfl)).trans rfl
                  exact does_move rfl e5 ⟨Keeps.refl _ _, rfl⟩
                refine all_step rfl (fun a x W hR hout hin => ?_) ?_
                · have e78 := hin.is 0 78 (by kernel_rfl) (by decide) (by kernel_rfl) _ rfl
                  have e79 := hin.is 1 79 (by kernel_rfl) (by decide) (by kernel_rfl) _ rfl
                  clear hin hout
                  intro K Q hK
                  go_simp
                  exact hK _ _ ⟨Keeps.refl _ _, by first | rfl | (simp [Vs, is]; done) | (simp [Vs, is]; omega)⟩
                refine all_step rfl (fun a x W hR hout hin => ?_) ?_
                · have e80 := hin.is 2 80 (by kernel_rfl) (by decide) (by kernel_rfl) _ rfl
                  exact does_move rfl e80 ⟨Keeps.refl _ _, rfl⟩
                refine all_step rfl (fun a x W hR hout hin => ?_) ?_
                · have e9 : a.tmps[9]? = some (.slice (some ⟨b9, o9, none⟩) n c9) := (hout 9 (by kernel_rfl)).trans rfl
                  exact does_move rfl e9 ⟨Keeps.refl _ _, rfl⟩
                refine all_step rfl (fun a x W hR hout hin => ?_) ?_
                · have e10 : a.tmps[10]? = some (.int .i64 (i : Int)) := (hout 10 (by kernel_rfl)).trans rfl
                  exact does_move rfl e10 ⟨Keeps.refl _ _, rfl⟩
                refine all_step rfl (fun a x W hR hout hin => ?_) ?_
                · have e82 := hin.is 4 82 (by kernel_rfl) (by decide) (by kernel_rfl) _ rfl
                  have e83 := hin.is 5 83 (by kernel_rfl) (by decide) (by kernel_rfl) _ rfl
                  clear hin hout
                  intro K Q hK
                  go_simp
                  exact hK _ _ ⟨Keeps.refl _ _, rfl⟩
                refine all_step rfl (fun a x W hR hout hin => ?_) ?_
                · have e84 := hin.is 6 84 (by kernel_rfl) (by decide) (by kernel_rfl) _ rfl
                  clear hin hout
                  intro K Q hK
                  refine wp_load_mid 24 (.tmp 84) rfl b9 ((o9 + i * 32)) (eval_of_get e84) (bs (L (i + 1))).toList _ (fun j u hu => hR.cell (a := ⟨b9, (o9 + i * 32) + j, none⟩) (R9.out j u hu)) Tryd.underlying24 rfl (by rw [len_bs, HL32.out]; exact size_d) ?_
                  exact hK _ _ ⟨Keeps.refl _ _, by simp [Vs, is]⟩
                refine all_step rfl (fun a x W hR hout hin => ?_) ?_
                · have e6 : a.tmps[6]? = some (.slice (some ⟨b6, o6, none⟩) k c6) := (hout 6 (by kernel_rfl)).trans rfl
                  exact does_move rfl e6 ⟨Keeps.refl _ _, rfl⟩
                refine all_step rfl (fun a x W hR hout hin => ?_) ?_
                · have e10 : a.tmps[10]? = some (.int .i64 (i : Int)) := (hout 10 (by kernel_rfl)).trans rfl
                  exact does_move rfl e10 ⟨Keeps.refl _ _, rfl⟩
                refine all_step rfl (fun a x W hR hout hin => ?_) ?_
                · have e86 := hin.is 8 86 (by kernel_rfl) (by decide) (by kernel_rfl) _ rfl
                  have e87 := hin.is 9 87 (by kernel_rfl) (by decide) (by kernel_rfl) _ rfl
                  clear hin hout
                  intro K Q hK
                  go_simp
                  exact hK _ _ ⟨Keeps.refl _ _, rfl⟩
                refine all_step rfl (fun a x W hR hout hin => ?_) ?_
                · have e88 := hin.is 10 88 (by kernel_rfl) (by decide) (by kernel_rfl) _ rfl
                  clear hin hout
                  intro K Q hK
                  refine wp_load_mid 24 (.tmp 88) rfl b6 ((o6 + i * 32)) (eval_of_get e88) (bs (L (i + 1))).toList _ (fun j u hu => hR.cell (a := ⟨b6, (o6 + i * 32) + j, none⟩) (R6.out j u hu)) Tryd.underlying24 rfl (by rw [len_bs, HL32.out]; exact size_d) ?_
                  exact hK _ _ ⟨Keeps.refl _ _, by simp [Vs, is]⟩
                refine all_step rfl (fun a x W hR hout hin => ?_) ?_
                · have e85 := hin.is 7 85 (by kernel_rfl) (by decide) (by kernel_rfl) _ rfl
                  have e89 := hin.is 11 89 (by kernel_rfl) (by decide) (by kernel_rfl) _ rfl
                  have q := eql_dig (L (i + 1)) (HL32.out _) W
                  clear hin hout
                  intro K Q hK
                  go_simp
                  exact hK _ _ ⟨Keeps.refl _ _, rfl⟩
                refine all_step rfl (fun a x W hR hout hin => ?_) ?_
                · have e81 := hin.is 3 81 (by kernel_rfl) (by decide) (by kernel_rfl) _ rfl
                  have e90 := hin.is 12 90 (by kernel_rfl) (by decide) (by kernel_rfl) _ rfl
                  exact does_pick rfl e81 ⟨Keeps.refl _ _, eval_of_get e90⟩
                refine all_step rfl (fun a x W hR hout hin => ?_) ?_
                · have e91 := hin.is 13 91 (by kernel_rfl) (by decide) (by kernel_rfl) _ rfl
                  exact does_move rfl e91 ⟨Keeps.refl _ _, rfl⟩
                refine all_step rfl (fun a x W hR hout hin => ?_) ?_
                · have e10 : a.tmps[10]? = some (.int .i64 (i : Int)) := (hout 10 (by kernel_rfl)).trans rfl
                  exact does_move rfl e10 ⟨Keeps.refl _ _, rfl⟩
                refine all_step rfl (fun a x W hR hout hin => ?_) ?_
                · have e5 : a.tmps[5]? = some (.int .i64 (k : Int)) := (hout 5 (by kernel_rfl)).trans rfl
                  exact does_move rfl e5 ⟨Keeps.refl _ _, rfl⟩
                refine all_step rfl (fun a x W hR hout hin => ?_) ?_
                · have e93 := hin.is 15 93 (by kernel_rfl) (by decide) (by kernel_rfl) _ rfl
                  have e94 := hin.is 16 94 (by kernel_rfl) (by decide) (by kernel_rfl) _ rfl
                  clear hin hout
                  intro K Q hK
                  go_simp
                  exact hK _ _ ⟨Keeps.refl _ _, by first | rfl | (simp [Vs, is]; done) | (simp [Vs, is]; omega)⟩
                refine all_step rfl (fun a x W hR hout hin => ?_) ?_
                · have e95 := hin.is 17 95 (by kernel_rfl) (by decide) (by kernel_rfl) _ rfl
                  exact does_move rfl e95 ⟨Keeps.refl _ _, rfl⟩
                refine all_skip rfl (fun _ _ => trivial) ?_
                refine all_skip rfl (fun _ _ => trivial) ?_
                refine all_skip rfl (fun _ _ => trivial) ?_
                refine all_skip rfl (fun _ _ => trivial) ?_
                refine all_skip rfl (fun _ _ => trivial) ?_
                refine all_skip rfl (fun _ _ => trivial) ?_
                refine all_skip rfl (fun _ _ => trivial) ?_
                refine all_skip rfl (fun _ _ => trivial) ?_
                refine all_skip rfl (fun _ _ => trivial) ?_
                refine all_skip rfl (fun _ _ => trivial) ?_
                refine all_skip rfl (fun _ _ => trivial) ?_
                refine all_step rfl (fun a x W hR hout hin => ?_) ?_
                · have e96 := hin.is 18 96 (by kernel_rfl) (by decide) (by kernel_rfl) _ rfl
                  obtain ⟨v107, e107, hv107⟩ := hin.get 29 107 (by kernel_rfl) (by decide) (by kernel_rfl)
                  exact does_pick rfl e96 ⟨Keeps.refl _ _, rfl⟩
                refine all_step rfl (fun a x W hR hout hin => ?_) ?_
                · have e92 := hin.is 14 92 (by kernel_rfl) (by decide) (by kernel_rfl) _ rfl
                  have e108 := hin.is 30 108 (by kernel_rfl) (by decide) (by kernel_rfl) _ rfl
                  exact does_pick rfl e92 ⟨Keeps.refl _ _, eval_of_get e108⟩
                refine all_step rfl (fun a x W hR hout hin => ?_) ?_
                · have e109 := hin.is 31 109 (by kernel_rfl) (by decide) (by kernel_rfl) _ rfl
                  exact does_move rfl e109 ⟨Keeps.refl _ _, rfl⟩
                refine all_step rfl (fun a x W hR hout hin => ?_) ?_
                · have e9 : a.tmps[9]? = some (.slice (some ⟨b9, o9, none⟩) n c9) := (hout 9 (by kernel_rfl)).trans rfl
                  exact does_move rfl e9 ⟨Keeps.refl _ _, rfl⟩
                refine all_step rfl (fun a x W hR hout hin => ?_) ?_
                · have e10 : a.tmps[10]? = some (.int .i64 (i : Int)) := (hout 10 (by kernel_rfl)).trans rfl
                  exact does_move rfl e10 ⟨Keeps.refl _ _, rfl⟩
                refine all_step rfl (fun a x W hR hout hin => ?_) ?_
                · have e111 := hin.is 33 111 (by kernel_rfl) (by decide) (by kernel_rfl) _ rfl
                  have e112 := hin.is 34 112 (by kernel_rfl) (by decide) (by kernel_rfl) _ rfl
                  clear hin hout
                  intro K Q hK
                  go_simp
                  exact hK _ _ ⟨Keeps.refl _ _, rfl⟩
                refine all_step rfl (fun a x W hR hout hin => ?_) ?_
                · have e113 := hin.is 35 113 (by kernel_rfl) (by decide) (by kernel_rfl) _ rfl
                  clear hin hout
                  intro K Q hK
                  refine wp_load_mid 24 (.tmp 113) rfl b9 ((o9 + i * 32)) (eval_of_get e113) (bs (L (i + 1))).toList _ (fun j u hu => hR.cell (a := ⟨b9, (o9 + i * 32) + j, none⟩) (R9.out j u hu)) Tryd.underlying24 rfl (by rw [len_bs, HL32.out]; exact size_d) ?_
                  exact hK _ _ ⟨Keeps.refl _ _, by simp [Vs, is]⟩
                refine all_step rfl (fun a x W hR hout hin => ?_) ?_
                · have e7 : a.tmps[7]? = some (.pointer (some ⟨w2.heap.size, 0, none⟩)) := (hout 7 (by kernel_rfl)).trans rfl
                  clear hin hout
                  intro K Q hK
                  refine wp_load_mid 24 (.tmp 7) rfl w2.heap.size (0) (eval_of_get e7) (bs (L i)).toList _ (fun j u hu => hR.cell (a := ⟨w2.heap.size, 0 + j, none⟩) (R7.out j u hu)) Tryd.underlying24 rfl (by rw [len_bs, HL32.out]; exact size_d) ?_
                  exact hK _ _ ⟨Keeps.refl _ _, by simp [Vs, is]⟩
                refine all_step rfl (fun a x W hR hout hin => ?_) ?_
                · have e2 : a.tmps[2]? = some (.pointer (some ⟨w.heap.size, 0, none⟩)) := (hout 2 (by kernel_rfl)).trans rfl
                  clear hin hout
                  intro K Q hK
                  go_simp
                  exact hK _ _ ⟨Keeps.refl _ _, rfl⟩
                refine all_step rfl (fun a x W hR hout hin => ?_) ?_
                · have e116 := hin.is 38 116 (by kernel_rfl) (by decide) (by kernel_rfl) _ rfl
                  have hu4 : W.cell? ⟨w.heap.size, 32, none⟩ = some (.slice (some ⟨bu, ou, none⟩) n c) := hR.cell (a := ⟨w.heap.size, 32, none⟩) (ch_list HRC.out HLh.out)
                  clear hin hout
                  intro K Q hK
                  go_simp
                  exact hK _ _ ⟨Keeps.refl _ _, rfl⟩
                refine all_step rfl (fun a x W hR hout hin => ?_) ?_
                · have e10 : a.tmps[10]? = some (.int .i64 (i : Int)) := (hout 10 (by kernel_rfl)).trans rfl
                  exact does_move rfl e10 ⟨Keeps.refl _ _, rfl⟩
                refine all_step rfl (fun a x W hR hout hin => ?_) ?_
                · have e117 := hin.is 39 117 (by kernel_rfl) (by decide) (by kernel_rfl) _ rfl
                  have e118 := hin.is 40 118 (by kernel_rfl) (by decide) (by kernel_rfl) _ rfl
                  clear hin hout
                  intro K Q hK
                  go_simp
                  exact hK _ _ ⟨Keeps.refl _ _, rfl⟩
                refine all_step rfl (fun a x W hR hout hin => ?_) ?_
                · have e119 := hin.is 41 119 (by kernel_rfl) (by decide) (by kernel_rfl) _ rfl
                  have hu5 : W.cell? ⟨bu, ou + i, none⟩ = some (.slice Ai q.length ci) := hR.cell (a := ⟨bu, ou + i, none⟩) HU.out
                  clear hin hout
                  intro K Q hK
                  go_simp
                  exact hK _ _ ⟨Keeps.refl _ _, rfl⟩
                refine all_step rfl (fun a x W hR hout hin => ?_) ?_
                · have e120 := hin.is 42 120 (by kernel_rfl) (by decide) (by kernel_rfl) _ rfl
                  have sq : Slice W (.slice Ai q.length ci) q := HSq.out.below ((Below.refl wr.heap.size wr).drew.trans hR.below) (Nat.le_refl _)
                  clear hin hout
                  intro K Q hK
                  go_simp
                  exact hK _ _ ⟨Keeps.alloc _ _ hR.below.size, parts1 sq⟩
                refine all_step rfl (fun a x W hR hout hin => ?_) ?_
                · have e115 := hin.is 37 115 (by kernel_rfl) (by decide) (by kernel_rfl) _ rfl
                  obtain ⟨v121, e121, hv121⟩ := hin.get 43 121 (by kernel_rfl) (by decide) (by kernel_rfl)
                  have hT : Tab W := HT.out.below (hb0r.trans ((Below.refl w.heap.size wr).drew.trans (hR.below.mono hb0r.size))) HT.out.pos
                  clear hin hout
                  intro K Q hK
                  go_simp
                  refine (step_one (L i) q v121 W hT (HL32.out i) hv121 (by omega) (L (i + 1)) HST.out).mono ?_
                  rintro e W' ⟨rfl, hb⟩
                  exact hK _ _ ⟨Keeps.call hb hR.below.size, rfl⟩
                refine all_step rfl (fun a x W hR hout hin => ?_) ?_
                · have e114 := hin.is 36 114 (by kernel_rfl) (by decide) (by kernel_rfl) _ rfl
                  have e122 := hin.is 44 122 (by kernel_rfl) (by decide) (by kernel_rfl) _ rfl
                  have q := eql_dig (L (i + 1)) (HL32.out _) W
                  clear hin hout
                  intro K Q hK
                  go_simp
                  exact hK _ _ ⟨Keeps.refl _ _, rfl⟩
                refine all_step rfl (fun a x W hR hout hin => ?_) ?_
                · have e110 := hin.is 32 110 (by kernel_rfl) (by decide) (by kernel_rfl) _ rfl
                  have e123 := hin.is 45 123 (by kernel_rfl) (by decide) (by kernel_rfl) _ rfl
                  exact does_pick rfl e110 ⟨Keeps.refl _ _, eval_of_get e123⟩
                exact all_end (by decide)
              · intro x W hKW hV
                have h46 : x 46 = .bool false := hV 46 (by decide)
                clear hV
                simp only [putL, Act.put, List.setIfInBounds_toArray, List.set_cons_succ, List.set_cons_zero, h46]
                refine wpAnyH_done (by kernel_rfl) ?_ _
                have hqW : Below wr.heap.size wr W := (Below.refl wr.heap.size wr).drew.trans hKW.below
                have r7W := R7r.out.call hqW
                have r9W : W.rangeAt b9 (o9 + i * 32) (bs (L (i + 1))).toList := fun j u hu => hKW.cell (a := ⟨b9, o9 + i * 32 + j, none⟩) (R9.out j u hu)
                have hoW := only_setRow (only_call hor hqW) (bs (L (i + 1)))
                have HOW := Lib.hid hoW
                have HR7W := Lib.hid (r7W.setRow (bs (L (i + 1))))
                clear hKW h46 hoW
                go_wp2_with (first | (refine wpList_load_mid rfl 24 _ rfl b9 (o9 + i * 32) rfl (bs (L (i + 1))).toList _ r9W Tryd.underlying24 rfl (by rw [len_bs, HL32.out]; exact size_d) ?_; simp only [Array.toArray_toList]) | (refine wpList_store_row rfl 24 _ _ rfl w2.heap.size (bs (L (i + 1))) rfl rfl 24 _ r7W (by rw [size_bs, HL32.out]; exact size_d) (by rw [size_bs, size_bs, HL32.out, HL32.out]) (one_bs _) ?_))
                go_roundw
                case rel => exact ⟨i + 1, by omega, by go_num, HOW.out, HR7W.out⟩
                case measure => simp [intOf]; omega
            · obtain ⟨d, hd⟩ : ∃ d, i - k = d := ⟨_, rfl⟩
              have hde : (i : Int) - (k : Int) = (d : Int) := by omega
              have hdn : d < nk := by omega
              have hne8 : D8 ≠ [] := by intro e; have := HD8.out; rw [e] at this; simp at this; omega
              obtain ⟨b8, o8, rfl, hl8, hr8⟩ := HG8.out hne8
              have hf8 : w2.heap.size + 1 ≤ b8 := HF8.out _ _ _ rfl
              have R8 : Hid (wr.rangeAt b8 (o8 + d * 32) (bs (L (i + 1))).toList) := Lib.hid fun j v hv => (only_cell hor (p := ⟨b8, o8 + d * 32 + j, none⟩) (Nat.lt_of_lt_of_le hl8 HB56.out.size) (Nat.ne_of_gt hf8)).trans ((HB56.out.cell (p := ⟨b8, o8 + d * 32 + j, none⟩) hl8).trans (hr8 d (L (i + 1)) (by have := HD8g.out d hdn; rwa [show k + d + 1 = i + 1 by omega] at this) j v hv))
              have hd0 : (0 : Int) ≤ (d : Int) := by omega
              have hd1 : (d : Int) < (nk : Int) := by omega
              have hdl : decide ((i : Int) < (k : Int)) = false := decide_eq_false (by omega)
              have hdg : decide ((k : Int) ≤ (i : Int)) = true := decide_eq_true (by omega)
              clear hr8 hne8
              go_wp2_with fail
              refine wp_region_vs (wr.heap.size) [is (.int .i64 (i : Int)), is (.int .i64 (k : Int)), is (.bool false), is (.bool false), anyV, anyV, anyV, anyV, anyV, anyV, anyV, anyV, anyV, is (.bool false), is (.bool false), is (.int .i64 (i : Int)), is (.int .i64 (k : Int)), is (.bool true), is (.bool true), is (.slice (some ⟨b9, o9, none⟩) n c9), is (.int .i64 (i : Int)), is (.pointer (some ⟨b9, o9 + i * 32, none⟩)), is (.agg (bs (L (i + 1)))), is (.slice (some ⟨b8, o8, none⟩) nk c8), is (.int .i64 (i : Int)), is (.int .i64 (k : Int)), is (.int .i64 (d : Int)), is (.pointer (some ⟨b8, o8 + d * 32, none⟩)), is (.agg (bs (L (i + 1)))), is (.bool false), is (.bool false), is (.bool false), is (.bool false), is (.slice (some ⟨b9, o9, none⟩) n c9), is (.int .i64 (i : Int)), is (.pointer (some ⟨b9, o9 + i * 32, none⟩)), is (.agg (bs (L (i + 1)))), is (.agg (bs (L i))), is (.pointer (some ⟨w.heap.size, 32, none⟩)), is (.slice (some ⟨bu, ou, none⟩) n c), is (.int .i64 (i : Int)), is (.pointer (some ⟨bu, ou + i, none⟩)), is (.slice Ai q.length ci), pts [q], is (.agg (bs (L (i + 1)))), is (.bool false), is (.bool false)] [some 78, some 79, some 80, some 81, some 82, some 83, some 84, some 85, some 86, some 87, some 88, some 89, some 90, some 91, some 92, some 93, some 94, some 95, some 96, some 97, some 98, some 99, some 100, some 101, some 102, some 103, some 104, some 105, some 106, some 107, some 108, some 109, some 110, some 111, some 112, some 113, some 114, some 115, some 116, some 117, some 118, some 119, some 120, some 121, some 122, some 123, some 124] 47 47 (fun i => !([4, 5, 6, 7, 8, 9, 10, 11, 12] : List Nat).contains i) rfl rfl rfl (by kernel_rfl) (by kernel_rfl) ?_ ?_ ?_ ?_
              · repeat first | exact stays_nil _ | refine stays_cons (by first | exact is_stays _ _ | exact lit_stays _ _ | exact sl_stays _ _ | exact pts_stays _ _ | exact hnd_stays _ _ | exact any_stays _) ?_
              · repeat first | exact all_end (by decide) | refine all_cons (by first | exact rfl | exact fun _ _ _ h => h) ?_
              · refine all_step rfl (fun a x W hR hout hin => ?_) ?_
                · have e10 : a.tmps[10]? = some (.int .i64 (i : Int)) := (hout 10 (by kernel_rfl)).trans rfl
                  exact does_move rfl e10 ⟨Keeps.refl _ _, rfl⟩
                refine all_step rfl (fun a x W hR hout hin => ?_) ?_
                · have e5 : a.tmps[5]? = some (.int .i64 (k : Int)) := (hout 5 (by kernel_rfl)).trans rfl
                  exact does_move rfl e5 ⟨Keeps.refl _ _, rfl⟩
                refine all_step rfl (fun a x W hR hout hin => ?_) ?_
                · have e78 := hin.is 0 78 (by kernel_rfl) (by decide) (by kernel_rfl) _ rfl
                  have e79 := hin.is 1 79 (by kernel_rfl) (by decide) (by kernel_rfl) _ rfl
                  clear hin hout
                  intro K Q hK
                  go_simp
                  exact hK _ _ ⟨Keeps.refl _ _, by first | rfl | (simp [Vs, is]; done) | (simp [Vs, is]; omega)⟩
                refine all_step rfl (fun a x W hR hout hin => ?_) ?_
                · have e80 := hin.is 2 80 (by kernel_rfl) (by decide) (by kernel_rfl) _ rfl
                  exact does_move rfl e80 ⟨Keeps.refl _ _, rfl⟩
                refine all_skip rfl (fun _ _ => trivial) ?_
                refine all_skip rfl (fun _ _ => trivial) ?_
                refine all_skip rfl (fun _ _ => trivial) ?_
                refine all_skip rfl (fun _ _ => trivial) ?_
                refine all_skip rfl (fun _ _ => trivial) ?_
                refine all_skip rfl (fun _ _ => trivial) ?_
                refine all_skip rfl (fun _ _ => trivial) ?_
                refine all_skip rfl (fun _ _ => trivial) ?_
                refine all_skip rfl (fun _ _ => trivial) ?_
                refine all_step rfl (fun a x W hR hout hin => ?_) ?_
                · have e81 := hin.is 3 81 (by kernel_rfl) (by decide) (by kernel_rfl) _ rfl
                  obtain ⟨v90, e90, hv90⟩ := hin.get 12 90 (by kernel_rfl) (by decide) (by kernel_rfl)
                  exact does_pick rfl e81 ⟨Keeps.refl _ _, rfl⟩
                refine all_step rfl (fun a x W hR hout hin => ?_) ?_
                · have e91 := hin.is 13 91 (by kernel_rfl) (by decide) (by kernel_rfl) _ rfl
                  exact does_move rfl e91 ⟨Keeps.refl _ _, rfl⟩
                refine all_step rfl (fun a x W hR hout hin => ?_) ?_
                · have e10 : a.tmps[10]? = some (.int .i64 (i : Int)) := (hout 10 (by kernel_rfl)).trans rfl
                  exact does_move rfl e10 ⟨Keeps.refl _ _, rfl⟩
                refine all_step rfl (fun a x W hR hout hin => ?_) ?_
                · have e5 : a.tmps[5]? = some (.int .i64 (k : Int)) := (hout 5 (by kernel_rfl)).trans rfl
                  exact does_move rfl e5 ⟨Keeps.refl _ _, rfl⟩
                refine all_step rfl (fun a x W hR hout hin => ?_) ?_
                · have e93 := hin.is 15 93 (by kernel_rfl) (by decide) (by kernel_rfl) _ rfl
                  have e94 := hin.is 16 94 (by kernel_rfl) (by decide) (by kernel_rfl) _ rfl
                  clear hin hout
                  intro K Q hK
                  go_simp
                  exact hK _ _ ⟨Keeps.refl _ _, by first | rfl | (simp [Vs, is]; done) | (simp [Vs, is]; omega)⟩
                refine all_step rfl (fun a x W hR hout hin => ?_) ?_
                · have e95 := hin.is 17 95 (by kernel_rfl) (by decide) (by kernel_rfl) _ rfl
                  exact does_move rfl e95 ⟨Keeps.refl _ _, rfl⟩
                refine all_step rfl (fun a x W hR hout hin => ?_) ?_
                · have e9 : a.tmps[9]? = some (.slice (some ⟨b9, o9, none⟩) n c9) := (hout 9 (by kernel_rfl)).trans rfl
                  exact does_move rfl e9 ⟨Keeps.refl _ _, rfl⟩
                refine all_step rfl (fun a x W hR hout hin => ?_) ?_
                · have e10 : a.tmps[10]? = some (.int .i64 (i : Int)) := (hout 10 (by kernel_rfl)).trans rfl
                  exact does_move rfl e10 ⟨Keeps.refl _ _, rfl⟩
                refine all_step rfl (fun a x W hR hout hin => ?_) ?_
                · have e97 := hin.is 19 97 (by kernel_rfl) (by decide) (by kernel_rfl) _ rfl
                  have e98 := hin.is 20 98 (by kernel_rfl) (by decide) (by kernel_rfl) _ rfl
                  clear hin hout
                  intro K Q hK
                  go_simp
                  exact hK _ _ ⟨Keeps.refl _ _, rfl⟩
                refine all_step rfl (fun a x W hR hout hin => ?_) ?_
                · have e99 := hin.is 21 99 (by kernel_rfl) (by decide) (by kernel_rfl) _ rfl
                  clear hin hout
                  intro K Q hK
                  refine wp_load_mid 24 (.tmp 99) rfl b9 ((o9 + i * 32)) (eval_of_get e99) (bs (L (i + 1))).toList _ (fun j u hu => hR.cell (a := ⟨b9, (o9 + i * 32) + j, none⟩) (R9.out j u hu)) Tryd.underlying24 rfl (by rw [len_bs, HL32.out]; exact size_d) ?_
                  exact hK _ _ ⟨Keeps.refl _ _, by simp [Vs, is]⟩
                refine all_step rfl (fun a x W hR hout hin => ?_) ?_
                · have e8 : a.tmps[8]? = some (.slice (some ⟨b8, o8, none⟩) nk c8) := (hout 8 (by kernel_rfl)).trans rfl
                  exact does_move rfl e8 ⟨Keeps.refl _ _, rfl⟩
                refine all_step rfl (fun a x W hR hout hin => ?_) ?_
                · have e10 : a.tmps[10]? = some (.int .i64 (i : Int)) := (hout 10 (by kernel_rfl)).trans rfl
                  exact does_move rfl e10 ⟨Keeps.refl _ _, rfl⟩
                refine all_step rfl (fun a x W hR hout hin => ?_) ?_
                · have e5 : a.tmps[5]? = some (.int .i64 (k : Int)) := (hout 5 (by kernel_rfl)).trans rfl
                  exact does_move rfl e5 ⟨Keeps.refl _ _, rfl⟩
                refine all_step rfl (fun a x W hR hout hin => ?_) ?_
                · have e102 := hin.is 24 102 (by kernel_rfl) (by decide) (by kernel_rfl) _ rfl
                  have e103 := hin.is 25 103 (by kernel_rfl) (by decide) (by kernel_rfl) _ rfl
                  have hdw := i64_id (d : Int) (by omega) (by omega)
                  clear hin hout
                  intro K Q hK
                  go_simp
                  exact hK _ _ ⟨Keeps.refl _ _, rfl⟩
                refine all_step rfl (fun a x W hR hout hin => ?_) ?_
                · have e101 := hin.is 23 101 (by kernel_rfl) (by decide) (by kernel_rfl) _ rfl
                  have e104 := hin.is 26 104 (by kernel_rfl) (by decide) (by kernel_rfl) _ rfl
                  clear hin hout
                  intro K Q hK
                  go_simp
                  exact hK _ _ ⟨Keeps.refl _ _, rfl⟩
                refine all_step rfl (fun a x W hR hout hin => ?_) ?_
                · have e105 := hin.is 27 105 (by kernel_rfl) (by decide) (by kernel_rfl) _ rfl
                  clear hin hout
                  intro K Q hK
                  refine wp_load_mid 24 (.tmp 105) rfl b8 ((o8 + d * 32)) (eval_of_get e105) (bs (L (i + 1))).toList _ (fun j u hu => hR.cell (a := ⟨b8, (o8 + d * 32) + j, none⟩) (R8.out j u hu)) Tryd.underlying24 rfl (by rw [len_bs, HL32.out]; exact size_d) ?_
                  exact hK _ _ ⟨Keeps.refl _ _, by simp [Vs, is]⟩
                refine all_step rfl (fun a x W hR hout hin => ?_) ?_
                · have e100 := hin.is 22 100 (by kernel_rfl) (by decide) (by kernel_rfl) _ rfl
                  have e106 := hin.is 28 106 (by kernel_rfl) (by decide) (by kernel_rfl) _ rfl
                  have q := eql_dig (L (i + 1)) (HL32.out _) W
                  clear hin hout
                  intro K Q hK
                  go_simp
                  exact hK _ _ ⟨Keeps.refl _ _, rfl⟩
                refine all_step rfl (fun a x W hR hout hin => ?_) ?_
                · have e96 := hin.is 18 96 (by kernel_rfl) (by decide) (by kernel_rfl) _ rfl
                  have e107 := hin.is 29 107 (by kernel_rfl) (by decide) (by kernel_rfl) _ rfl
                  exact does_pick rfl e96 ⟨Keeps.refl _ _, eval_of_get e107⟩
                refine all_step rfl (fun a x W hR hout hin => ?_) ?_
                · have e92 := hin.is 14 92 (by kernel_rfl) (by decide) (by kernel_rfl) _ rfl
                  have e108 := hin.is 30 108 (by kernel_rfl) (by decide) (by kernel_rfl) _ rfl
                  exact does_pick rfl e92 ⟨Keeps.refl _ _, eval_of_get e108⟩
                refine all_step rfl (fun a x W hR hout hin => ?_) ?_
                · have e109 := hin.is 31 109 (by kernel_rfl) (by decide) (by kernel_rfl) _ rfl
                  exact does_move rfl e109 ⟨Keeps.refl _ _, rfl⟩
                refine all_step rfl (fun a x W hR hout hin => ?_) ?_
                · have e9 : a.tmps[9]? = some (.slice (some ⟨b9, o9, none⟩) n c9) := (hout 9 (by kernel_rfl)).trans rfl
                  exact does_move rfl e9 ⟨Keeps.refl _ _, rfl⟩
                refine all_step rfl (fun a x W hR hout hin => ?_) ?_
                · have e10 : a.tmps[10]? = some (.int .i64 (i : Int)) := (hout 10 (by kernel_rfl)).trans rfl
                  exact does_move rfl e10 ⟨Keeps.refl _ _, rfl⟩
                refine all_step rfl (fun a x W hR hout hin => ?_) ?_
                · have e111 := hin.is 33 111 (by kernel_rfl) (by decide) (by kernel_rfl) _ rfl
                  have e112 := hin.is 34 112 (by kernel_rfl) (by decide) (by kernel_rfl) _ rfl
                  clear hin hout
                  intro K Q hK
                  go_simp
                  exact hK _ _ ⟨Keeps.refl _ _, rfl⟩
                refine all_step rfl (fun a x W hR hout hin => ?_) ?_
                · have e113 := hin.is 35 113 (by kernel_rfl) (by decide) (by kernel_rfl) _ rfl
                  clear hin hout
                  intro K Q hK
                  refine wp_load_mid 24 (.tmp 113) rfl b9 ((o9 + i * 32)) (eval_of_get e113) (bs (L (i + 1))).toList _ (fun j u hu => hR.cell (a := ⟨b9, (o9 + i * 32) + j, none⟩) (R9.out j u hu)) Tryd.underlying24 rfl (by rw [len_bs, HL32.out]; exact size_d) ?_
                  exact hK _ _ ⟨Keeps.refl _ _, by simp [Vs, is]⟩
                refine all_step rfl (fun a x W hR hout hin => ?_) ?_
                · have e7 : a.tmps[7]? = some (.pointer (some ⟨w2.heap.size, 0, none⟩)) := (hout 7 (by kernel_rfl)).trans rfl
                  clear hin hout
                  intro K Q hK
                  refine wp_load_mid 24 (.tmp 7) rfl w2.heap.size (0) (eval_of_get e7) (bs (L i)).toList _ (fun j u hu => hR.cell (a := ⟨w2.heap.size, 0 + j, none⟩) (R7.out j u hu)) Tryd.underlying24 rfl (by rw [len_bs, HL32.out]; exact size_d) ?_
                  exact hK _ _ ⟨Keeps.refl _ _, by simp [Vs, is]⟩
                refine all_step rfl (fun a x W hR hout hin => ?_) ?_
                · have e2 : a.tmps[2]? = some (.pointer (some ⟨w.heap.size, 0, none⟩)) := (hout 2 (by kernel_rfl)).trans rfl
                  clear hin hout
                  intro K Q hK
                  go_simp
                  exact hK _ _ ⟨Keeps.refl _ _, rfl⟩
                refine all_step rfl (fun a x W hR hout hin => ?_) ?_
                · have e116 := hin.is 38 116 (by kernel_rfl) (by decide) (by kernel_rfl) _ rfl
                  have hu4 : W.cell? ⟨w.heap.size, 32, none⟩ = some (.slice (some ⟨bu, ou, none⟩) n c) := hR.cell (a := ⟨w.heap.size, 32, none⟩) (ch_list HRC.out HLh.out)
                  clear hin hout
                  intro K Q hK
                  go_simp
                  exact hK _ _ ⟨Keeps.refl _ _, rfl⟩
                refine all_step rfl (fun a x W hR hout hin => ?_) ?_
                · have e10 : a.tmps[10]? = some (.int .i64 (i : Int)) := (hout 10 (by kernel_rfl)).trans rfl
                  exact does_move rfl e10 ⟨Keeps.refl _ _, rfl⟩
                refine all_step rfl (fun a x W hR hout hin => ?_) ?_
                · have e117 := hin.is 39 117 (by kernel_rfl) (by decide) (by kernel_rfl) _ rfl
                  have e118 := hin.is 40 118 (by kernel_rfl) (by decide) (by kernel_rfl) _ rfl
                  clear hin hout
                  intro K Q hK
                  go_simp
                  exact hK _ _ ⟨Keeps.refl _ _, rfl⟩
                refine all_step rfl (fun a x W hR hout hin => ?_) ?_
                · have e119 := hin.is 41 119 (by kernel_rfl) (by decide) (by kernel_rfl) _ rfl
                  have hu5 : W.cell? ⟨bu, ou + i, none⟩ = some (.slice Ai q.length ci) := hR.cell (a := ⟨bu, ou + i, none⟩) HU.out
                  clear hin hout
                  intro K Q hK
                  go_simp
                  exact hK _ _ ⟨Keeps.refl _ _, rfl⟩
                refine all_step rfl (fun a x W hR hout hin => ?_) ?_
                · have e120 := hin.is 42 120 (by kernel_rfl) (by decide) (by kernel_rfl) _ rfl
                  have sq : Slice W (.slice Ai q.length ci) q := HSq.out.below ((Below.refl wr.heap.size wr).drew.trans hR.below) (Nat.le_refl _)
                  clear hin hout
                  intro K Q hK
                  go_simp
                  exact hK _ _ ⟨Keeps.alloc _ _ hR.below.size, parts1 sq⟩
                refine all_step rfl (fun a x W hR hout hin => ?_) ?_
                · have e115 := hin.is 37 115 (by kernel_rfl) (by decide) (by kernel_rfl) _ rfl
                  obtain ⟨v121, e121, hv121⟩ := hin.get 43 121 (by kernel_rfl) (by decide) (by kernel_rfl)
                  have hT : Tab W := HT.out.below (hb0r.trans ((Below.refl w.heap.size wr).drew.trans (hR.below.mono hb0r.size))) HT.out.pos
                  clear hin hout
                  intro K Q hK
                  go_simp
                  refine (step_one (L i) q v121 W hT (HL32.out i) hv121 (by omega) (L (i + 1)) HST.out).mono ?_
                  rintro e W' ⟨rfl, hb⟩
                  exact hK _ _ ⟨Keeps.call hb hR.below.size, rfl⟩
                refine all_step rfl (fun a x W hR hout hin => ?_) ?_
                · have e114 := hin.is 36 114 (by kernel_rfl) (by decide) (by kernel_rfl) _ rfl
                  have e122 := hin.is 44 122 (by kernel_rfl) (by decide) (by kernel_rfl) _ rfl
                  have q := eql_dig (L (i + 1)) (HL32.out _) W
                  clear hin hout
                  intro K Q hK
                  go_simp
                  exact hK _ _ ⟨Keeps.refl _ _, rfl⟩
                refine all_step rfl (fun a x W hR hout hin => ?_) ?_
                · have e110 := hin.is 32 110 (by kernel_rfl) (by decide) (by kernel_rfl) _ rfl
                  have e123 := hin.is 45 123 (by kernel_rfl) (by decide) (by kernel_rfl) _ rfl
                  exact does_pick rfl e110 ⟨Keeps.refl _ _, eval_of_get e123⟩
                exact all_end (by decide)
              · intro x W hKW hV
                have h46 : x 46 = .bool false := hV 46 (by decide)
                clear hV
                simp only [putL, Act.put, List.setIfInBounds_toArray, List.set_cons_succ, List.set_cons_zero, h46]
                refine wpAnyH_done (by kernel_rfl) ?_ _
                have hqW : Below wr.heap.size wr W := (Below.refl wr.heap.size wr).drew.trans hKW.below
                have r7W := R7r.out.call hqW
                have r9W : W.rangeAt b9 (o9 + i * 32) (bs (L (i + 1))).toList := fun j u hu => hKW.cell (a := ⟨b9, o9 + i * 32 + j, none⟩) (R9.out j u hu)
                have hoW := only_setRow (only_call hor hqW) (bs (L (i + 1)))
                have HOW := Lib.hid hoW
                have HR7W := Lib.hid (r7W.setRow (bs (L (i + 1))))
                clear hKW h46 hoW
                go_wp2_with (first | (refine wpList_load_mid rfl 24 _ rfl b9 (o9 + i * 32) rfl (bs (L (i + 1))).toList _ r9W Tryd.underlying24 rfl (by rw [len_bs, HL32.out]; exact size_d) ?_; simp only [Array.toArray_toList]) | (refine wpList_store_row rfl 24 _ _ rfl w2.heap.size (bs (L (i + 1))) rfl rfl 24 _ r7W (by rw [size_bs, HL32.out]; exact size_d) (by rw [size_bs, size_bs, HL32.out, HL32.out]) (one_bs _) ?_))
                go_roundw
                case rel => exact ⟨i + 1, by omega, by go_num, HOW.out, HR7W.out⟩
                case measure => simp [intOf]; omega
          · obtain rfl : n = i := by omega
            go_wp2_with fail
            refine (twakes_any wr (HT.out.below hb0r HT.out.pos)).mono ?_
            rintro e w9 ⟨rfl, hb9⟩
            go_wp2_with fail
            go_ret
            exact ⟨rfl, hb0r.trans (hb9.mono hb0r.size)⟩
end Go.Proofs.YtnfceejmkcohnaaDoor
