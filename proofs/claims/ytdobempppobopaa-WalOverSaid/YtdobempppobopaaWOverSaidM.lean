/- WalOver: for every list of records and byte the call returns true and changes nothing that it was handed. Conditions: those of the row. -/
import Derived.Deep.DeepCutAuto
import Derived.Deep.CutBlock
import Derived.Test.YtdobempppobopaaRows
import Derived.Test.YtdobempppobopaaMWal1
import Derived.Test.YtdobempppobopaaMWal0
import Derived.Test.YtdobempppobopaaMGen0
import Derived.Test.YtdobempppobopaaMGen1
/- The statement WalOver: its walk. -/
set_option maxRecDepth 4000
namespace Go.Proofs.Ytdobempppobopaa
open Go Go.RowKit
def fillv (i : Nat) : List (BitVec 8) := blk (byteOf (200 + (i : Int)))
def fls (k : Nat) : List (List (BitVec 8)) := (List.range k).map fillv
theorem fls_succ (k : Nat) : fls (k + 1) = fls k ++ [fillv k] := by unfold fls; rw [List.range_succ, List.map_append]; rfl
theorem length_fls (k : Nat) : (fls k).length = k := by simp [fls]
theorem imgsL_snoc : ∀ (bl : List (List (BitVec 8))) (a : Nat) (b : List (BitVec 8)), imgsL a (bl ++ [b]) = imgsL a bl ++ [(a + bl.length, b)]
  | [], a, b => rfl
  | x :: bl, a, b => by
    show (a, x) :: imgsL (a + 1) (bl ++ [b]) = (a, x) :: (imgsL (a + 1) bl ++ [(a + (bl.length + 1), b)])
    rw [imgsL_snoc bl (a + 1) b, show a + 1 + bl.length = a + (bl.length + 1) by omega]
def ovM (k : Nat) : DiskM := ⟨List.replicate 14 (blk 0#8), imgsL 0 (fls k), -1, false⟩
theorem ovM_zero : DiskM.new 14 = ovM 0 := rfl
theorem ovM_step (k : Nat) (hk : k < 14) : (ovM k).wRes (k : Int) (fillv k) = (0, ovM (k + 1)) := by
  rw [wRes_go (by show k < (List.replicate 14 (blk 0#8)).length; simpa using hk) rfl (by show (-1 : Int) ≠ 0; decide)]
  unfold ovM
  rw [fls_succ, imgsL_snoc, length_fls, Nat.zero_add]; rfl
structure OvOk (at_ : Nat) (M : DiskM) : Prop where
  l : M.l = []
  d : M.down = false
  f : M.f = -1
  n : M.s.length = 14
  far : ∀ i, i < 14 → (i < at_ ∨ at_ + 6 ≤ i) → M.s.getD i [] = fillv i
theorem ovM_flush (a : Nat) : (ovM 14).fRes.1 = 0 ∧ OvOk a (ovM 14).fRes.2 := by
  rw [fRes_go (M := ovM 14) rfl (by decide)]
  refine ⟨rfl, rfl, rfl, rfl, by show (DiskM.put _ _).length = 14; rw [DiskM.length_put]; rfl, fun i hi _ => ?_⟩
  have := put_at (fls 14) 0 (List.replicate 14 (blk 0#8)) i (by rw [length_fls]; simp) (by rw [length_fls]; exact hi)
  rw [Nat.zero_add] at this
  show (DiskM.put (List.replicate 14 (blk 0#8)) (imgsL 0 (fls 14))).getD i [] = _
  rw [this]
  unfold fls
  rw [List.getD_eq_getElem?_getD, List.getElem?_map, List.getElem?_range hi]; rfl
theorem ov_put {a : Nat} {M : DiskM} {r : Rec} (h : OvOk a M) (ha : a + 6 ≤ 14) (hg : goodB r.ats = true) : ∃ M', walPut M (a : Int) r = (0, M') ∧ OvOk a M' ∧ walGet M' (a : Int) = (r, 0) := by
  obtain ⟨s2, h1, h2, h3, h4, h5⟩ := put_free (M := M) (f0 := a) (r := r) (by rw [h.n]; exact ha) h.l h.d hg (by rw [h.f]; decide)
  exact ⟨_, h1, ⟨rfl, rfl, h.f, by rw [← h.n]; exact h2, fun i hi hfar => (h5 i hfar).trans (h.far i hi hfar)⟩, get_put (by show a + 6 ≤ s2.length; rw [h2, h.n]; exact ha) rfl rfl hg h3 h4⟩
theorem ov_bad {M : DiskM} {f : Int} {r : Rec} (hg : goodB r.ats = false) : walPut M f r = (1, M) := by
  unfold walPut; rw [hg, Bool.and_false]; rfl
theorem mod5 (z : Int) (h : 0 ≤ z) : ∃ K : Nat, z.tmod 5 = (K : Int) ∧ K < 5 := by
  rw [Int.tmod_eq_emod_of_nonneg h]
  exact ⟨(z % 5).toNat, by omega, by omega⟩
set_option maxRecDepth 20000 in
set_option maxHeartbeats 1600000 in
theorem wover_walk (D : DiskOps) (O_ : WalOps D) (A : Option Addr) (c : Nat) (l : List (BitVec 32 × BitVec 32 × List (Int × List (BitVec 8)) × Unit)) (x : BitVec 8) (w : World) (hv : rdSl 3 rdRec w [.slice A l.length c] l) :
    Calls Try.prog 6 #[.slice A l.length c, .int .u8 (bd x)] w fun e w' => e = .returned (.bool true) ∧ Below w.heap.size w w' := by
  have HW := Lib.hid (fun W => wwakes_any D O_ W)
  obtain ⟨n, hn⟩ : ∃ n, l.length = n := ⟨_, rfl⟩
  have HN := Lib.hid hn
  have HX : Hid (∀ k, k < n → ∃ b o e s Ap cp lp, A = some ⟨b, o, none⟩ ∧ b < w.heap.size ∧ w.rangeAt b (o + k * 3) (recW ⟨e, s, lp⟩ (.slice Ap lp.length cp)).toList ∧ PutsAt w (.slice Ap lp.length cp) lp ∧ lp.length ≤ maxLen) := Lib.hid (fun k hk => by
    obtain ⟨A', c', e1, _, _, _, h5⟩ := hv
    obtain ⟨y, hy⟩ : ∃ y, l[k]? = some y := ⟨_, List.getElem?_eq_getElem (by rw [hn]; exact hk)⟩
    obtain ⟨b, o, h6, h7, h8⟩ := h5 (by rintro rfl; simp at hy)
    obtain ⟨ds, _, h9, h10⟩ := h8 k y hy
    obtain ⟨Ap, cp, h11, h12, h13⟩ := rec_at h10
    injection e1 with e1 _
    injection e1 with e1 _ _
    exact ⟨b, o, y.1, y.2.1, Ap, cp, y.2.2.1, e1.trans h6, h7, by rw [← h11]; exact h9, h12, h13⟩)
  rw [hn]
  clear hv hn
  go_enter Try.func6, Try.ntmps6
  by_cases h20 : 20 < n
  · have hq : decide ((20 : Int) < (n : Int)) = true := decide_eq_true (by omega)
    go_wp2_with fail
    refine (HW.out _).mono ?_
    rintro e Wz ⟨rfl, hbz⟩
    go_wp2_with fail
    go_ret
    exact ⟨rfl, hbz⟩
  have hq : decide ((20 : Int) < (n : Int)) = false := decide_eq_false (by omega)
  obtain ⟨K, hK, hK5⟩ := mod5 (bd x) (bd_lo x)
  have hcv : IntKind.i64.wrap (bd x) = bd x := i64_id _ (bd_lo x) (by have := bd_hi x; omega)
  have e1 : IntKind.i64.wrap (1 + (K : Int)) = 1 + (K : Int) := i64_id _ (by omega) (by omega)
  have C := D.new w.heap.size w 14 (Nat.le_refl _) (by decide)
  rw [makes_yes _ _ _ _ (by decide)] at C
  go_wp2_with fail
  refine C.mono ?_
  rintro e W1 ⟨g, F1, rfl, hA, hb1, _⟩
  have hA : D.A w.heap.size W1 (.pointer (some ⟨g, 0, none⟩)) (ovM 0) F1 := hA
  have HA1 := Lib.hid hA
  have HB1 := Lib.hid hb1
  obtain ⟨at_, hat⟩ : ∃ a : Nat, a = 1 + K := ⟨_, rfl⟩
  have HAT : Hid (1 + (K : Int) = (at_ : Int) ∧ at_ + 6 ≤ 14 ∧ 1 ≤ at_) := Lib.hid ⟨by omega, by omega, by omega⟩
  clear C hA hb1 hcv hK hq e1
  go_wp2_with fail
  go_loopw [8] (fun i wr => ∃ (k : Nat) (F : Nat → Prop), k ≤ 14 ∧ i = .int .i64 k ∧ D.A w.heap.size wr (.pointer (some ⟨g, 0, none⟩)) (ovM k) F ∧ Below w.heap.size w wr) (fun i _ => 14 - (intOf i).toNat)
  case atStart => exact ⟨0, F1, by omega, rfl, HA1.out, HB1.out⟩
  case round =>
    obtain ⟨k, F, hk, rfl, hA, hB⟩ := hrel
    have HA := Lib.hid hA
    have HB := Lib.hid hB
    have HLF : Hid ((ovM k).l.length ≤ few) := Lib.hid (by show (imgsL 0 (fls k)).length ≤ few; rw [length_imgsL, length_fls]; unfold few; omega)
    clear hA hB HA1 HB1
    by_cases hlt : k < 14
    · have hq : decide ((k : Int) < 14) = true := decide_eq_true (by omega)
      have e2 : IntKind.i64.wrap (200 + (k : Int)) = 200 + (k : Int) := i64_id _ (by omega) (by omega)
      have hcv : IntKind.u8.wrap (200 + (k : Int)) = bd (byteOf (200 + (k : Int))) := wrap_u8_bd _
      go_wp2_with fail
      refine (fill_any (byteOf (200 + (k : Int))) wr).mono ?_
      rintro e W2 ⟨rfl, hb2⟩
      have HA2 := Lib.hid (D.still HA.out hb2)
      have HB2 := Lib.hid (HB.out.trans (hb2.mono HB.out.size))
      have C := D.write w.heap.size W2 _ (ovM k) F (k : Int) (fillv k) HA2.out (length_blk _) HLF.out (by omega)
      rw [ovM_step k hlt] at C
      unfold fillv at C
      clear hb2 HA HB
      go_wp2_with fail
      refine C.mono ?_
      rintro e W3 ⟨rfl, F3, hA3, hC3, _⟩
      have HA3 : Hid (D.A w.heap.size W3 (.pointer (some ⟨g, 0, none⟩)) (ovM (k + 1)) F3) := Lib.hid hA3
      have HB3 := Lib.hid (HB2.out.trans (acts_below (D.lt HA2.out) hC3 HB2.out.size))
      clear C hA3 hC3 HA2 HB2
      go_wp2_with fail
      exact ⟨⟨k + 1, F3, by omega, by go_num, HA3.out, HB3.out⟩, by simp [intOf] <;> omega⟩
    · obtain rfl : k = 14 := by omega
      have hq : decide (((14 : Nat) : Int) < 14) = false := decide_eq_false (by omega)
      have C := D.flush w.heap.size wr _ (ovM 14) F HA.out HLF.out
      obtain ⟨hfr, hfo⟩ := ovM_flush at_
      obtain ⟨M1, hM1⟩ : ∃ M, (ovM 14).fRes.2 = M := ⟨_, rfl⟩
      rw [hfr, hM1] at C
      rw [hM1] at hfo
      have HF1 := Lib.hid hfo
      clear hfr hfo hM1 HLF
      go_wp2_with fail
      refine C.mono ?_
      rintro e W4 ⟨rfl, F4, hA4, hC4, _⟩
      have HA4 := Lib.hid hA4
      have HB4 := Lib.hid (HB.out.trans (acts_below (D.lt HA.out) hC4 HB.out.size))
      clear C hA4 hC4 HA HB hq
      go_wp2_with fail
      go_loopw [9] (fun i wr => ∃ (k : Nat) (M : DiskM) (F : Nat → Prop), k ≤ n ∧ i = .int .i64 k ∧ D.A w.heap.size wr (.pointer (some ⟨g, 0, none⟩)) M F ∧ OvOk at_ M ∧ Below w.heap.size w wr) (fun i _ => n - (intOf i).toNat)
      case atStart => exact ⟨0, M1, F4, by omega, rfl, HA4.out, HF1.out, HB4.out⟩
      case round =>
        obtain ⟨k, M, F, hk, rfl, hA, hM, hB⟩ := hrel
        have HA := Lib.hid hA
        have HM := Lib.hid hM
        have HB := Lib.hid hB
        clear hA hM hB HA4 HB4 HF1
        by_cases hlt : k < n
        · obtain ⟨b, o, ee, ss, Ap, cp, lp, rfl, hbw, hr, hpu, hmx⟩ := HX.out k hlt
          obtain ⟨O, hO⟩ : ∃ O, o + k * 3 = O := ⟨_, rfl⟩
          rw [hO] at hr
          obtain ⟨np, hnp⟩ : ∃ m, lp.length = m := ⟨_, rfl⟩
          have HNP := Lib.hid hnp
          have HMX := Lib.hid hmx
          rw [hnp] at hpu hr
          have hown : lp ≠ [] → ∀ j, (Value.slice Ap np cp).ownBlock = some j → j < w.heap.size := fun hne j hj => by
            obtain ⟨A', c', e1, _, _, h4⟩ := hpu
            obtain ⟨b', o', rfl, h6, _⟩ := h4 hne
            injection e1 with e1 _ _
            subst e1
            cases hj
            exact h6
          have HPU := Lib.hid (hpu.below HB.out (Nat.le_refl _))
          have HPU0 := Lib.hid hpu
          obtain ⟨X, hX⟩ : ∃ X, recW ⟨ee, ss, lp⟩ (.slice Ap np cp) = X := ⟨_, rfl⟩
          have HXF : Hid (X.toList.length = 3 ∧ X.toList[0]? = some (.int .u32 (wd ee)) ∧ X.toList[1]? = some (.int .u32 (wd ss)) ∧ X.toList[2]? = some (.slice Ap np cp)) := Lib.hid (by rw [← hX]; exact ⟨rfl, rfl, rfl, rfl⟩)
          have HPUT : Hid (∀ W M' F', D.A w.heap.size W (.pointer (some ⟨g, 0, none⟩)) M' F' → M'.l = [] → Below w.heap.size w W → Calls Try.prog 12 #[.pointer (some ⟨g, 0, none⟩), .int .i64 (1 + (K : Int)), .agg X] W (Acts D.A w.heap.size W (.pointer (some ⟨g, 0, none⟩)) F' (walPut M' (at_ : Int) ⟨ee, ss, lp⟩).2 (.int .i64 (walPut M' (at_ : Int) ⟨ee, ss, lp⟩).1))) := Lib.hid (fun W M' F' h1 h2 h3 => by
            rw [HAT.out.1]
            have := O_.put w.heap.size W _ M' F' (at_ : Int) ee ss Ap cp lp h1 (by have := HAT.out.2.1; omega) (by rw [hnp]; exact hpu.below h3 (Nat.le_refl _)) hmx (fun hne j hj => by have h7 := hown hne j (by rw [← hnp]; exact hj); have h8 := h3.size; exact ⟨by omega, fun hf => by have := (D.lt h1 j hf).1; omega⟩) (by rw [h2]; show 0 + 10 ≤ few; decide) h3.size
            rw [hnp, hX] at this
            exact this)
          rw [hX] at hr
          have HR0 := Lib.hid hr
          have HBWD := Lib.hid hbw
          have HOO := Lib.hid hO
          have cO2 : wr.cell? ⟨b, O + 2, none⟩ = some (.slice Ap np cp) := (HB.out.cell (p := ⟨b, O + 2, none⟩) hbw).trans (hr 2 _ HXF.out.2.2.2)
          have hk0 : (0 : Int) ≤ (k : Int) := by omega
          have hk1 : (k : Int) < (n : Int) := by omega
          have C := refgood_any lp (.slice Ap np cp) wr HPU.out HMX.out
          clear hnp hpu hmx hown hX hr hbw
          go_wp2_with fail
          refine C.mono ?_
          rintro e W5 ⟨rfl, hb5⟩
          have HA5 := Lib.hid (D.still HA.out hb5)
          have HB5 := Lib.hid (HB.out.trans (hb5.mono HB.out.size))
          have HR5 := Lib.hid (range_below HR0.out HB5.out HBWD.out)
          have C := HPUT.out W5 M F HA5.out HM.out.l HB5.out
          clear hb5 HA HB cO2
          cases hgd : goodB (lp.map (·.1)) with
          | false =>
            rw [ov_bad (r := ⟨ee, ss, lp⟩) hgd] at C
            clear hgd
            go_wp2_with (first | (refine wpList_load_mid rfl 36 _ rfl b O rfl X.toList _ HR5.out Try.underlying36 rfl (by rw [HXF.out.1]; exact size_recW) ?_) | (refine wpList_guarded (by rfl) (fun K hK => ?_); refine wp_load_mid 36 _ rfl b O rfl X.toList _ HR5.out Try.underlying36 rfl (by rw [HXF.out.1]; exact size_recW) (hK _ _ ?_)))
            refine C.mono ?_
            rintro e W6 ⟨rfl, F6, hA6, hC6, _⟩
            have HA6 : Hid (D.A w.heap.size W6 (.pointer (some ⟨g, 0, none⟩)) M F6) := Lib.hid hA6
            have HB6 := Lib.hid (HB5.out.trans (acts_below (D.lt HA5.out) hC6 HB5.out.size))
            have C2 := D.loose w.heap.size W6 _ M F6 HA6.out (by rw [HM.out.l]; exact Nat.zero_le _)
            rw [HM.out.l, show (([] : List (Nat × List (BitVec 8))).length : Int) = 0 from rfl] at C2
            clear C hA6 hC6 HA5 HB5 HR5
            go_wp2_with fail
            refine C2.mono ?_
            rintro e W7 ⟨rfl, hb7⟩
            have HA7 := Lib.hid (D.still HA6.out hb7)
            have HB7 := Lib.hid (HB6.out.trans (hb7.mono HB6.out.size))
            clear C2 hb7 HA6 HB6
            go_wp2_with fail
            exact ⟨⟨k + 1, M, F6, by omega, by go_num, HA7.out, HM.out, HB7.out⟩, by simp [intOf] <;> omega⟩
          | true =>
            obtain ⟨M2, hp1, hp2, hp3⟩ := ov_put (r := ⟨ee, ss, lp⟩) HM.out HAT.out.2.1 hgd
            rw [hp1] at C
            have HM2 := Lib.hid hp2
            have HGET := Lib.hid hp3
            have HL5 : Hid (lp.length ≤ 1000000) := Lib.hid (by unfold goodB at hgd; simp only [Bool.and_eq_true, decide_eq_true_eq, List.length_map] at hgd; omega)
            clear hgd hp1 hp2 hp3
            go_wp2_with (first | (refine wpList_load_mid rfl 36 _ rfl b O rfl X.toList _ HR5.out Try.underlying36 rfl (by rw [HXF.out.1]; exact size_recW) ?_) | (refine wpList_guarded (by rfl) (fun K hK => ?_); refine wp_load_mid 36 _ rfl b O rfl X.toList _ HR5.out Try.underlying36 rfl (by rw [HXF.out.1]; exact size_recW) (hK _ _ ?_)))
            refine C.mono ?_
            rintro e W6 ⟨rfl, F6, hA6, hC6, _⟩
            have HA6 : Hid (D.A w.heap.size W6 (.pointer (some ⟨g, 0, none⟩)) M2 F6) := Lib.hid hA6
            have HB6 := Lib.hid (HB5.out.trans (acts_below (D.lt HA5.out) hC6 HB5.out.size))
            have C2 := D.loose w.heap.size W6 _ M2 F6 HA6.out (by rw [HM2.out.l]; exact Nat.zero_le _)
            rw [HM2.out.l, show (([] : List (Nat × List (BitVec 8))).length : Int) = 0 from rfl] at C2
            clear C hA6 hC6 HA5 HB5 HR5
            go_wp2_with fail
            refine C2.mono ?_
            rintro e W7 ⟨rfl, hb7⟩
            have HA7 := Lib.hid (D.still HA6.out hb7)
            have HB7 := Lib.hid (HB6.out.trans (hb7.mono HB6.out.size))
            have C3 := O_.get w.heap.size W7 _ M2 F6 (at_ : Int) HA7.out (by have := HAT.out.2.1; omega) (by rw [HM2.out.l]; exact Nat.zero_le _)
            rw [HGET.out] at C3
            unfold ToldP at C3
            simp only [HNP.out] at C3
            rw [← HAT.out.1] at C3
            clear C2 hb7 HA6 HB6
            go_wp2_with fail
            refine C3.mono ?_
            rintro e W8 ⟨A8, c8, rfl, hp8, hb8, _⟩
            obtain ⟨X8, hX8⟩ : ∃ X, recW ⟨ee, ss, lp⟩ (.slice A8 np c8) = X := ⟨_, rfl⟩
            have HX8 : Hid (X8[0]? = some (.int .u32 (wd ee)) ∧ X8[1]? = some (.int .u32 (wd ss)) ∧ X8[2]? = some (.slice A8 np c8) ∧ (Try.prog.info? 36).map (·.size) = some X8.size ∧ X8.all (·.oneCell') = true ∧ X8.size = 3) := Lib.hid (by rw [← hX8]; exact ⟨rfl, rfl, rfl, size_recW, one_recW _ _, rfl⟩)
            rw [hX8]
            have hz := zeros_recW
            have HA9 := Lib.hid (D.still (D.still HA7.out hb8) (Same.alloc W8 (.cells X8 36)))
            have HB9 := Lib.hid ((HB7.out.trans (hb8.mono HB7.out.size)).trans ((Same.alloc W8 (.cells X8 36)).mono (Nat.le_trans HB7.out.size hb8.size)))
            have HP9 := Lib.hid (hp8.below (Same.alloc W8 (.cells X8 36)) (Nat.le_refl _))
            have HR9 := Lib.hid (Row.fresh W8 36 X8)
            clear C3 hX8 hp8 hb8 HA7 HB7
            go_upto_region 23 with (refine wpList_store_row rfl 36 _ _ rfl W8.heap.size X8 rfl rfl 36 _ (Row.fresh _ _ _) HX8.out.2.2.2.1 (by rw [HX8.out.2.2.2.2.2]; rfl) HX8.out.2.2.2.2.1 ?_; rw [World.setRow_alloc_new])
            clear hz
            generalize W8.heap.size = g10 at *
            generalize W8.alloc (.cells X8 36) = W9 at *
            have HPW := Lib.hid (HPU0.out.below HB9.out (Nat.le_refl _))
            have HRW := Lib.hid (range_below HR0.out HB9.out HBWD.out)
            have HBW9 : Hid (b < W9.heap.size) := Lib.hid (Nat.lt_of_lt_of_le HBWD.out HB9.out.size)
            have HG10 : Hid (g10 < W9.heap.size) := Lib.hid HR9.out.lt
            have HKP := Lib.hid (fun (W : World) (hw : Below W9.heap.size W9 W) => keepputs_any lp lp (.slice A8 np c8) (.slice Ap np cp) W (HP9.out.below hw (Nat.le_refl _)) (HPW.out.below hw (Nat.le_refl _)))
            have HLP : Hid (lp.length ≤ 1000000) := Lib.hid HL5.out
            have hF0 : Wl [fun W => Below W9.heap.size W9 W] 0 W9.drew := (Below.refl _ _).drew
            refine wp_region_phs [is (.int .i64 0), is (.bool false), is (.bool false), is (.pointer (some ⟨g10, 0, none⟩)), is (.int .u32 (wd ee)), is (.slice (some ⟨b, o, none⟩) n c), is (.int .i64 (k : Int)), is (.pointer (some ⟨b, O, none⟩)), is (.pointer (some ⟨b, O, none⟩)), is (.int .u32 (wd ee)), is (.bool false), is (.bool false), is (.bool false), is (.pointer (some ⟨g10, 1, none⟩)), is (.int .u32 (wd ss)), is (.slice (some ⟨b, o, none⟩) n c), is (.int .i64 (k : Int)), is (.pointer (some ⟨b, O, none⟩)), is (.pointer (some ⟨b, O + 1, none⟩)), is (.int .u32 (wd ss)), is (.bool false), is (.bool false), is (.bool false), is (.pointer (some ⟨g10, 2, none⟩)), is (.slice A8 np c8), is (.slice (some ⟨b, o, none⟩) n c), is (.int .i64 (k : Int)), is (.pointer (some ⟨b, O, none⟩)), is (.pointer (some ⟨b, O + 2, none⟩)), is (.slice Ap np cp), is (.bool true), is (.bool false), is (.bool false)] [true, true, true, true, true, true, true, true, true, true, true, true, true, true, true, true, true, true, true, true, true, true, true, true, true, true, true, true, true, true, true, true, true] [(fun W => Below W9.heap.size W9 W)] [false, false, false, false, false, false, false, false, false, false, false, false, false, false, false, false, false, false, false, false, false, false, false, false, false, false, false, false, false, false, false, false, false] [some 0, some 0, some 0, some 0, some 0, some 0, some 0, some 0, some 0, some 0, some 0, some 0, some 0, some 0, some 0, some 0, some 0, some 0, some 0, some 0, some 0, some 0, some 0, some 0, some 0, some 0, some 0, some 0, some 0, some 0, some 0, some 0, some 0] [some 93, some 94, some 95, some 96, some 97, some 98, some 99, some 100, some 101, some 102, some 103, some 104, some 105, some 106, some 107, some 108, some 109, some 110, some 111, some 112, some 113, some 114, some 115, some 116, some 117, some 118, some 119, some 120, some 121, some 122, some 123, some 124, some 125] 33 0 (fun _ => true) rfl rfl (by kernel_rfl) (by kernel_rfl) (by kernel_rfl) (by kernel_rfl) ?_ ?_ ?_ ?_ ?_ ?_
            · repeat first | exact wok_nil | refine wok_cons (by first | exact fun _ _ h k => h.trans (k.mono h.size)) ?_
            · repeat first | exact vok_nil | refine vok_rig (by first | exact fun _ _ _ h => h) ?_ | refine vok_soft (by first | exact fun _ _ _ h _ => h) ?_
            · exact hF0
            · repeat first | exact all_end (by decide) | refine all_cons (by first | exact rfl | exact ⟨rfl, fun _ _ h => Or.inl h⟩ | exact ⟨rfl, fun _ _ h => Or.inr ⟨h, rfl⟩⟩) ?_
            · refine allp_mild 0 rfl rfl rfl (fun a x_ W hout hin hP => ?_) ?_
              · have e11 : a.tmps[11]? = some (.int .i64 0) := (hout 11 (by kernel_rfl)).trans rfl
                exact does_move rfl e11 ⟨Same.refl _, rfl⟩
              refine allp_mild 0 rfl rfl rfl (fun a x_ W hout hin hP => ?_) ?_
              · have e93 := hin.is 0 93 (by kernel_rfl) (by decide) (by kernel_rfl) (by kernel_rfl) _ rfl
                clear hin hout
                intro K0 Q hK
                go_simp
                exact hK _ _ ⟨Same.refl _, rfl⟩
              refine allp_mild 0 rfl rfl rfl (fun a x_ W hout hin hP => ?_) ?_
              · have e94 := hin.is 1 94 (by kernel_rfl) (by decide) (by kernel_rfl) (by kernel_rfl) _ rfl
                exact does_move rfl e94 ⟨Same.refl _, rfl⟩
              refine allp_mild 0 rfl rfl rfl (fun a x_ W hout hin hP => ?_) ?_
              · have e10 : a.tmps[10]? = some (.pointer (some ⟨g10, 0, none⟩)) := (hout 10 (by kernel_rfl)).trans rfl
                clear hin hout
                intro K Q hK
                go_simp
                exact hK _ _ ⟨Same.refl _, rfl⟩
              refine allp_mild 0 rfl rfl rfl (fun a x_ W hout hin hP => ?_) ?_
              · have e96 := hin.is 3 96 (by kernel_rfl) (by decide) (by kernel_rfl) (by kernel_rfl) _ rfl
                have hc : W.cell? ⟨g10, 0, none⟩ = some (.int .u32 (wd ee)) := (hP.cell (p := ⟨g10, 0, none⟩) HG10.out).trans (HR9.out.get HX8.out.1)
                clear hP
                clear hin hout
                intro K0 Q hK
                go_simp
                exact hK _ _ ⟨Same.refl _, rfl⟩
              refine allp_mild 0 rfl rfl rfl (fun a x_ W hout hin hP => ?_) ?_
              · have e0 : a.tmps[0]? = some (.slice (some ⟨b, o, none⟩) n c) := (hout 0 (by kernel_rfl)).trans rfl
                exact does_move rfl e0 ⟨Same.refl _, rfl⟩
              refine allp_mild 0 rfl rfl rfl (fun a x_ W hout hin hP => ?_) ?_
              · have e9 : a.tmps[9]? = some (.int .i64 (k : Int)) := (hout 9 (by kernel_rfl)).trans rfl
                exact does_move rfl e9 ⟨Same.refl _, rfl⟩
              refine allp_mild 0 rfl rfl rfl (fun a x_ W hout hin hP => ?_) ?_
              · have e98 := hin.is 5 98 (by kernel_rfl) (by decide) (by kernel_rfl) (by kernel_rfl) _ rfl
                have e99 := hin.is 6 99 (by kernel_rfl) (by decide) (by kernel_rfl) (by kernel_rfl) _ rfl
                have hO := HOO.out
                clear hin hout
                intro K0 Q hK
                go_simp
                exact hK _ _ ⟨Same.refl _, rfl⟩
              refine allp_mild 0 rfl rfl rfl (fun a x_ W hout hin hP => ?_) ?_
              · have e100 := hin.is 7 100 (by kernel_rfl) (by decide) (by kernel_rfl) (by kernel_rfl) _ rfl
                clear hin hout
                intro K Q hK
                go_simp
                exact hK _ _ ⟨Same.refl _, rfl⟩
              refine allp_mild 0 rfl rfl rfl (fun a x_ W hout hin hP => ?_) ?_
              · have e101 := hin.is 8 101 (by kernel_rfl) (by decide) (by kernel_rfl) (by kernel_rfl) _ rfl
                have hc : W.cell? ⟨b, O, none⟩ = some (.int .u32 (wd ee)) := (hP.cell (p := ⟨b, O, none⟩) HBW9.out).trans (HRW.out 0 _ HXF.out.2.1)
                clear hP
                clear hin hout
                intro K0 Q hK
                go_simp
                exact hK _ _ ⟨Same.refl _, rfl⟩
              refine allp_mild 0 rfl rfl rfl (fun a x_ W hout hin hP => ?_) ?_
              · have e97 := hin.is 4 97 (by kernel_rfl) (by decide) (by kernel_rfl) (by kernel_rfl) _ rfl
                have e102 := hin.is 9 102 (by kernel_rfl) (by decide) (by kernel_rfl) (by kernel_rfl) _ rfl
                clear hin hout
                intro K0 Q hK
                go_simp
                exact hK _ _ ⟨Same.refl _, rfl⟩
              refine allp_mild 0 rfl rfl rfl (fun a x_ W hout hin hP => ?_) ?_
              · have e95 := hin.is 2 95 (by kernel_rfl) (by decide) (by kernel_rfl) (by kernel_rfl) _ rfl
                have e103 := hin.is 10 103 (by kernel_rfl) (by decide) (by kernel_rfl) (by kernel_rfl) _ rfl
                exact does_pick rfl e95 ⟨Same.refl _, eval_of_get e103⟩
              refine allp_mild 0 rfl rfl rfl (fun a x_ W hout hin hP => ?_) ?_
              · have e104 := hin.is 11 104 (by kernel_rfl) (by decide) (by kernel_rfl) (by kernel_rfl) _ rfl
                exact does_move rfl e104 ⟨Same.refl _, rfl⟩
              refine allp_mild 0 rfl rfl rfl (fun a x_ W hout hin hP => ?_) ?_
              · have e10 : a.tmps[10]? = some (.pointer (some ⟨g10, 0, none⟩)) := (hout 10 (by kernel_rfl)).trans rfl
                clear hin hout
                intro K Q hK
                go_simp
                exact hK _ _ ⟨Same.refl _, rfl⟩
              refine allp_mild 0 rfl rfl rfl (fun a x_ W hout hin hP => ?_) ?_
              · have e106 := hin.is 13 106 (by kernel_rfl) (by decide) (by kernel_rfl) (by kernel_rfl) _ rfl
                have hc : W.cell? ⟨g10, 1, none⟩ = some (.int .u32 (wd ss)) := (hP.cell (p := ⟨g10, 1, none⟩) HG10.out).trans (HR9.out.get HX8.out.2.1)
                clear hP
                clear hin hout
                intro K0 Q hK
                go_simp
                exact hK _ _ ⟨Same.refl _, rfl⟩
              refine allp_mild 0 rfl rfl rfl (fun a x_ W hout hin hP => ?_) ?_
              · have e0 : a.tmps[0]? = some (.slice (some ⟨b, o, none⟩) n c) := (hout 0 (by kernel_rfl)).trans rfl
                exact does_move rfl e0 ⟨Same.refl _, rfl⟩
              refine allp_mild 0 rfl rfl rfl (fun a x_ W hout hin hP => ?_) ?_
              · have e9 : a.tmps[9]? = some (.int .i64 (k : Int)) := (hout 9 (by kernel_rfl)).trans rfl
                exact does_move rfl e9 ⟨Same.refl _, rfl⟩
              refine allp_mild 0 rfl rfl rfl (fun a x_ W hout hin hP => ?_) ?_
              · have e108 := hin.is 15 108 (by kernel_rfl) (by decide) (by kernel_rfl) (by kernel_rfl) _ rfl
                have e109 := hin.is 16 109 (by kernel_rfl) (by decide) (by kernel_rfl) (by kernel_rfl) _ rfl
                have hO := HOO.out
                clear hin hout
                intro K0 Q hK
                go_simp
                exact hK _ _ ⟨Same.refl _, rfl⟩
              refine allp_mild 0 rfl rfl rfl (fun a x_ W hout hin hP => ?_) ?_
              · have e110 := hin.is 17 110 (by kernel_rfl) (by decide) (by kernel_rfl) (by kernel_rfl) _ rfl
                clear hin hout
                intro K Q hK
                go_simp
                exact hK _ _ ⟨Same.refl _, rfl⟩
              refine allp_mild 0 rfl rfl rfl (fun a x_ W hout hin hP => ?_) ?_
              · have e111 := hin.is 18 111 (by kernel_rfl) (by decide) (by kernel_rfl) (by kernel_rfl) _ rfl
                have hc : W.cell? ⟨b, O + 1, none⟩ = some (.int .u32 (wd ss)) := (hP.cell (p := ⟨b, O + 1, none⟩) HBW9.out).trans (HRW.out 1 _ HXF.out.2.2.1)
                clear hP
                clear hin hout
                intro K0 Q hK
                go_simp
                exact hK _ _ ⟨Same.refl _, rfl⟩
              refine allp_mild 0 rfl rfl rfl (fun a x_ W hout hin hP => ?_) ?_
              · have e107 := hin.is 14 107 (by kernel_rfl) (by decide) (by kernel_rfl) (by kernel_rfl) _ rfl
                have e112 := hin.is 19 112 (by kernel_rfl) (by decide) (by kernel_rfl) (by kernel_rfl) _ rfl
                clear hin hout
                intro K0 Q hK
                go_simp
                exact hK _ _ ⟨Same.refl _, rfl⟩
              refine allp_mild 0 rfl rfl rfl (fun a x_ W hout hin hP => ?_) ?_
              · have e105 := hin.is 12 105 (by kernel_rfl) (by decide) (by kernel_rfl) (by kernel_rfl) _ rfl
                have e113 := hin.is 20 113 (by kernel_rfl) (by decide) (by kernel_rfl) (by kernel_rfl) _ rfl
                exact does_pick rfl e105 ⟨Same.refl _, eval_of_get e113⟩
              refine allp_mild 0 rfl rfl rfl (fun a x_ W hout hin hP => ?_) ?_
              · have e114 := hin.is 21 114 (by kernel_rfl) (by decide) (by kernel_rfl) (by kernel_rfl) _ rfl
                exact does_move rfl e114 ⟨Same.refl _, rfl⟩
              refine allp_mild 0 rfl rfl rfl (fun a x_ W hout hin hP => ?_) ?_
              · have e10 : a.tmps[10]? = some (.pointer (some ⟨g10, 0, none⟩)) := (hout 10 (by kernel_rfl)).trans rfl
                clear hin hout
                intro K Q hK
                go_simp
                exact hK _ _ ⟨Same.refl _, rfl⟩
              refine allp_mild 0 rfl rfl rfl (fun a x_ W hout hin hP => ?_) ?_
              · have e116 := hin.is 23 116 (by kernel_rfl) (by decide) (by kernel_rfl) (by kernel_rfl) _ rfl
                have hc : W.cell? ⟨g10, 2, none⟩ = some (.slice A8 np c8) := (hP.cell (p := ⟨g10, 2, none⟩) HG10.out).trans (HR9.out.get HX8.out.2.2.1)
                clear hP
                clear hin hout
                intro K0 Q hK
                go_simp
                exact hK _ _ ⟨Same.refl _, rfl⟩
              refine allp_mild 0 rfl rfl rfl (fun a x_ W hout hin hP => ?_) ?_
              · have e0 : a.tmps[0]? = some (.slice (some ⟨b, o, none⟩) n c) := (hout 0 (by kernel_rfl)).trans rfl
                exact does_move rfl e0 ⟨Same.refl _, rfl⟩
              refine allp_mild 0 rfl rfl rfl (fun a x_ W hout hin hP => ?_) ?_
              · have e9 : a.tmps[9]? = some (.int .i64 (k : Int)) := (hout 9 (by kernel_rfl)).trans rfl
                exact does_move rfl e9 ⟨Same.refl _, rfl⟩
              refine allp_mild 0 rfl rfl rfl (fun a x_ W hout hin hP => ?_) ?_
              · have e118 := hin.is 25 118 (by kernel_rfl) (by decide) (by kernel_rfl) (by kernel_rfl) _ rfl
                have e119 := hin.is 26 119 (by kernel_rfl) (by decide) (by kernel_rfl) (by kernel_rfl) _ rfl
                have hO := HOO.out
                clear hin hout
                intro K0 Q hK
                go_simp
                exact hK _ _ ⟨Same.refl _, rfl⟩
              refine allp_mild 0 rfl rfl rfl (fun a x_ W hout hin hP => ?_) ?_
              · have e120 := hin.is 27 120 (by kernel_rfl) (by decide) (by kernel_rfl) (by kernel_rfl) _ rfl
                clear hin hout
                intro K Q hK
                go_simp
                exact hK _ _ ⟨Same.refl _, rfl⟩
              refine allp_mild 0 rfl rfl rfl (fun a x_ W hout hin hP => ?_) ?_
              · have e121 := hin.is 28 121 (by kernel_rfl) (by decide) (by kernel_rfl) (by kernel_rfl) _ rfl
                have hc : W.cell? ⟨b, O + 2, none⟩ = some (.slice Ap np cp) := (hP.cell (p := ⟨b, O + 2, none⟩) HBW9.out).trans (HRW.out 2 _ HXF.out.2.2.2)
                clear hP
                clear hin hout
                intro K0 Q hK
                go_simp
                exact hK _ _ ⟨Same.refl _, rfl⟩
              refine allp_mild 0 rfl rfl rfl (fun a x_ W hout hin hP => ?_) ?_
              · have e117 := hin.is 24 117 (by kernel_rfl) (by decide) (by kernel_rfl) (by kernel_rfl) _ rfl
                have e122 := hin.is 29 122 (by kernel_rfl) (by decide) (by kernel_rfl) (by kernel_rfl) _ rfl
                have C := HKP.out W hP HLP.out
                rw [decide_eq_true rfl] at C
                clear hP
                clear hin hout
                intro K0 Q hK
                go_simp
                refine C.mono ?_
                rintro e W' ⟨rfl, hb⟩
                exact hK _ _ ⟨hb, rfl⟩
              refine allp_mild 0 rfl rfl rfl (fun a x_ W hout hin hP => ?_) ?_
              · have e123 := hin.is 30 123 (by kernel_rfl) (by decide) (by kernel_rfl) (by kernel_rfl) _ rfl
                exact does_not rfl e123 ⟨Same.refl _, rfl⟩
              refine allp_mild 0 rfl rfl rfl (fun a x_ W hout hin hP => ?_) ?_
              · have e115 := hin.is 22 115 (by kernel_rfl) (by decide) (by kernel_rfl) (by kernel_rfl) _ rfl
                have e124 := hin.is 31 124 (by kernel_rfl) (by decide) (by kernel_rfl) (by kernel_rfl) _ rfl
                exact does_pick rfl e115 ⟨Same.refl _, eval_of_get e124⟩
              exact all_end (by decide)
            · intro x_ V hP hV
              have HBV := Lib.hid hP
              have h32 : x_ 32 = .bool false := hV 32 (by decide) (.inl (by kernel_rfl))
              clear hP hV
              simp only [putL, Act.put, List.setIfInBounds_toArray, List.set_cons_succ, List.set_cons_zero, h32]
              refine wpAnyH_done (by kernel_rfl) ?_ _
              clear h32
              have HAV := Lib.hid (D.still HA9.out HBV.out)
              have HBB := Lib.hid (HB9.out.trans (HBV.out.mono HB9.out.size))
              go_wp2_with fail
              exact ⟨⟨k + 1, M2, F6, by omega, by go_num, HAV.out, HM2.out, HBB.out⟩, by simp [intOf] <;> omega⟩
        · obtain rfl : k = n := by omega
          have hq : decide ((k : Int) < (k : Int)) = false := decide_eq_false (by omega)
          go_wp2_with fail
          clear hq
          have e5 : IntKind.i64.wrap (1 + (K : Int) + 5) = 1 + (K : Int) + 5 := i64_id _ (by omega) (by omega)
          go_loopw [12] (fun i wr => ∃ (j : Nat), j ≤ 14 ∧ i = .int .i64 j ∧ D.A w.heap.size wr (.pointer (some ⟨g, 0, none⟩)) M F ∧ Below w.heap.size w wr) (fun i _ => 14 - (intOf i).toNat)
          case atStart => exact ⟨0, by omega, rfl, HA.out, HB.out⟩
          case round =>
            obtain ⟨j, hj, rfl, hA, hB⟩ := hrel
            have HAj := Lib.hid hA
            have HBj := Lib.hid hB
            clear hA hB HA HB
            by_cases hlt2 : j < 14
            · have hq : decide ((j : Int) < 14) = true := decide_eq_true (by omega)
              by_cases ha : at_ ≤ j
              · have hd1 : decide (1 + (K : Int) ≤ (j : Int)) = true := decide_eq_true (by omega)
                by_cases hb5 : j ≤ at_ + 5
                · have hd2 : decide ((j : Int) ≤ 1 + (K : Int) + 5) = true := decide_eq_true (by omega)
                  go_wp2_with fail
                  exact ⟨⟨j + 1, by omega, by go_num, HAj.out, HBj.out⟩, by simp [intOf] <;> omega⟩
                · have hd2 : decide ((j : Int) ≤ 1 + (K : Int) + 5) = false := decide_eq_false (by omega)
                  have HFAR : Hid (j < at_ ∨ at_ + 6 ≤ j) := Lib.hid (by omega)
                  have C := D.read w.heap.size wr _ M F (j : Int) HAj.out (by rw [HM.out.l]; exact Nat.zero_le _) (by omega)
                  obtain ⟨Y, hY⟩ : ∃ Y, fillv j = Y := ⟨_, rfl⟩
                  have HY : Hid (Y.length = 32) := Lib.hid (by rw [← hY]; exact length_blk _)
                  have hrr : M.rRes (j : Int) = (Y, 0) := by
                    have hhas : M.has (j : Int) = true := by unfold DiskM.has; have := HM.out.n; simp; omega
                    unfold DiskM.rRes
                    rw [hhas, HM.out.d, if_pos rfl, if_neg (by decide), Int.toNat_natCast]
                    unfold DiskM.now
                    rw [HM.out.l, ← hY, ← HM.out.far j hlt2 HFAR.out]; rfl
                  rw [hrr] at C
                  have HYV := Lib.hid hY
                  have hzb := zeros_blk
                  clear hrr hY
                  go_wp2_with fail
                  refine C.mono ?_
                  rintro e W5 ⟨rfl, hb5'⟩
                  have HA6 := Lib.hid (D.still (D.still HAj.out hb5') (Same.alloc W5 (.cells (bs Y) 52)))
                  have HB6 := Lib.hid ((HBj.out.trans (hb5'.mono HBj.out.size)).trans ((Same.alloc W5 (.cells (bs Y) 52)).mono (Nat.le_trans HBj.out.size hb5'.size)))
                  have HR13 := Lib.hid (Row.fresh W5 52 (bs Y))
                  clear C hb5' HAj HBj
                  go_upto_region 30 with (refine wpList_store_row rfl 52 _ _ rfl W5.heap.size (bs Y) rfl rfl 52 _ (Row.fresh _ _ _) (by rw [size_bs, HY.out]; exact size_blk) (by rw [size_bs, size_bs, length_blk, HY.out]) (one_bs _) ?_; rw [World.setRow_alloc_new])
                  clear hzb
                  generalize W5.heap.size = g13 at *
                  generalize W5.alloc (.cells (bs Y) 52) = W6 at *
                  have hF0 : Wl [fun W => Below W6.heap.size W6 W] 0 W6.drew := (Below.refl _ _).drew
                  refine wp_region_phs [is (.int .i64 0), is (.bool false), is (.bool false), is (.agg (bs Y)), is (.int .i64 (j : Int)), is (.int .i64 (200 + (j : Int))), is (.int .u8 (bd (byteOf (200 + (j : Int))))), is (.agg (bs Y)), is (.bool false), is (.bool false)] [true, true, true, true, true, true, true, true, true, true] [(fun W => Below W6.heap.size W6 W)] [false, false, false, false, false, false, false, false, false, false] [some 0, some 0, some 0, some 0, some 0, some 0, some 0, some 0, some 0, some 0] [some 145, some 146, some 147, some 148, some 149, some 150, some 151, some 152, some 153, some 154] 10 0 (fun _ => true) rfl rfl (by kernel_rfl) (by kernel_rfl) (by kernel_rfl) (by kernel_rfl) ?_ ?_ ?_ ?_ ?_ ?_
                  · repeat first | exact wok_nil | refine wok_cons (by first | exact fun _ _ h k => h.trans (k.mono h.size)) ?_
                  · repeat first | exact vok_nil | refine vok_rig (by first | exact fun _ _ _ h => h) ?_ | refine vok_soft (by first | exact fun _ _ _ h _ => h) ?_
                  · exact hF0
                  · repeat first | exact all_end (by decide) | refine all_cons (by first | exact rfl | exact ⟨rfl, fun _ _ h => Or.inl h⟩ | exact ⟨rfl, fun _ _ h => Or.inr ⟨h, rfl⟩⟩) ?_
                  · refine allp_mild 0 rfl rfl rfl (fun a x_ W hout hin hP => ?_) ?_
                    · have e14 : a.tmps[14]? = some (.int .i64 0) := (hout 14 (by kernel_rfl)).trans rfl
                      exact does_move rfl e14 ⟨Same.refl _, rfl⟩
                    refine allp_mild 0 rfl rfl rfl (fun a x_ W hout hin hP => ?_) ?_
                    · have e145 := hin.is 0 145 (by kernel_rfl) (by decide) (by kernel_rfl) (by kernel_rfl) _ rfl
                      clear hin hout
                      intro K0 Q hK
                      go_simp
                      exact hK _ _ ⟨Same.refl _, rfl⟩
                    refine allp_mild 0 rfl rfl rfl (fun a x_ W hout hin hP => ?_) ?_
                    · have e146 := hin.is 1 146 (by kernel_rfl) (by decide) (by kernel_rfl) (by kernel_rfl) _ rfl
                      exact does_move rfl e146 ⟨Same.refl _, rfl⟩
                    refine allp_mild 0 rfl rfl rfl (fun a x_ W hout hin hP => ?_) ?_
                    · have e13 : a.tmps[13]? = some (.pointer (some ⟨g13, 0, none⟩)) := (hout 13 (by kernel_rfl)).trans rfl
                      have rr := row_range HR13.out hP HR13.out.lt
                      clear hin hout
                      intro K0 Q hK
                      exact wp_load_mid 52 (.tmp 13) rfl g13 0 (eval_of_get e13) (bs Y).toList _ rr Try.underlying52 rfl (by rw [len_bs, HY.out]; exact size_blk) (hK _ _ ⟨Same.refl _, by simp [Vs, is]⟩)
                    refine allp_mild 0 rfl rfl rfl (fun a x_ W hout hin hP => ?_) ?_
                    · have e12 : a.tmps[12]? = some (.int .i64 (j : Int)) := (hout 12 (by kernel_rfl)).trans rfl
                      exact does_move rfl e12 ⟨Same.refl _, rfl⟩
                    refine allp_mild 0 rfl rfl rfl (fun a x_ W hout hin hP => ?_) ?_
                    · have e149 := hin.is 4 149 (by kernel_rfl) (by decide) (by kernel_rfl) (by kernel_rfl) _ rfl
                      have e2 : IntKind.i64.wrap (200 + (j : Int)) = 200 + (j : Int) := i64_id _ (by omega) (by omega)
                      clear hin hout
                      intro K0 Q hK
                      go_simp
                      exact hK _ _ ⟨Same.refl _, rfl⟩
                    refine allp_mild 0 rfl rfl rfl (fun a x_ W hout hin hP => ?_) ?_
                    · have e150 := hin.is 5 150 (by kernel_rfl) (by decide) (by kernel_rfl) (by kernel_rfl) _ rfl
                      have hcv : IntKind.u8.wrap (200 + (j : Int)) = bd (byteOf (200 + (j : Int))) := wrap_u8_bd _
                      clear hin hout
                      intro K0 Q hK
                      go_simp
                      exact hK _ _ ⟨Same.refl _, rfl⟩
                    refine allp_mild 0 rfl rfl rfl (fun a x_ W hout hin hP => ?_) ?_
                    · have e151 := hin.is 6 151 (by kernel_rfl) (by decide) (by kernel_rfl) (by kernel_rfl) _ rfl
                      have C := fill_any (byteOf (200 + (j : Int))) W
                      rw [show blk (byteOf (200 + (j : Int))) = Y from HYV.out] at C
                      clear hP
                      clear hin hout
                      intro K0 Q hK
                      go_simp
                      refine C.mono ?_
                      rintro e W' ⟨rfl, hb⟩
                      exact hK _ _ ⟨hb, rfl⟩
                    refine allp_mild 0 rfl rfl rfl (fun a x_ W hout hin hP => ?_) ?_
                    · have e148 := hin.is 3 148 (by kernel_rfl) (by decide) (by kernel_rfl) (by kernel_rfl) _ rfl
                      have e152 := hin.is 7 152 (by kernel_rfl) (by decide) (by kernel_rfl) (by kernel_rfl) _ rfl
                      have q := eql_blk Y Y HY.out HY.out W
                      rw [decide_eq_true rfl] at q
                      clear hP
                      clear hin hout
                      intro K0 Q hK
                      go_simp
                      exact hK _ _ ⟨Same.refl _, rfl⟩
                    refine allp_mild 0 rfl rfl rfl (fun a x_ W hout hin hP => ?_) ?_
                    · have e147 := hin.is 2 147 (by kernel_rfl) (by decide) (by kernel_rfl) (by kernel_rfl) _ rfl
                      have e153 := hin.is 8 153 (by kernel_rfl) (by decide) (by kernel_rfl) (by kernel_rfl) _ rfl
                      exact does_pick rfl e147 ⟨Same.refl _, eval_of_get e153⟩
                    exact all_end (by decide)
                  · intro x_ V hP hV
                    have HBV := Lib.hid hP
                    have h9 : x_ 9 = .bool false := hV 9 (by decide) (.inl (by kernel_rfl))
                    clear hP hV
                    simp only [putL, Act.put, List.setIfInBounds_toArray, List.set_cons_succ, List.set_cons_zero, h9]
                    refine wpAnyH_done (by kernel_rfl) ?_ _
                    clear h9
                    have HAV := Lib.hid (D.still HA6.out HBV.out)
                    have HBB := Lib.hid (HB6.out.trans (HBV.out.mono HB6.out.size))
                    go_wp2_with fail
                    exact ⟨⟨j + 1, by omega, by go_num, HAV.out, HBB.out⟩, by simp [intOf] <;> omega⟩
              · have hd1 : decide (1 + (K : Int) ≤ (j : Int)) = false := decide_eq_false (by omega)
                have HFAR : Hid (j < at_ ∨ at_ + 6 ≤ j) := Lib.hid (by omega)
                have C := D.read w.heap.size wr _ M F (j : Int) HAj.out (by rw [HM.out.l]; exact Nat.zero_le _) (by omega)
                obtain ⟨Y, hY⟩ : ∃ Y, fillv j = Y := ⟨_, rfl⟩
                have HY : Hid (Y.length = 32) := Lib.hid (by rw [← hY]; exact length_blk _)
                have hrr : M.rRes (j : Int) = (Y, 0) := by
                  have hhas : M.has (j : Int) = true := by unfold DiskM.has; have := HM.out.n; simp; omega
                  unfold DiskM.rRes
                  rw [hhas, HM.out.d, if_pos rfl, if_neg (by decide), Int.toNat_natCast]
                  unfold DiskM.now
                  rw [HM.out.l, ← hY, ← HM.out.far j hlt2 HFAR.out]; rfl
                rw [hrr] at C
                have HYV := Lib.hid hY
                have hzb := zeros_blk
                clear hrr hY
                go_wp2_with fail
                refine C.mono ?_
                rintro e W5 ⟨rfl, hb5'⟩
                have HA6 := Lib.hid (D.still (D.still HAj.out hb5') (Same.alloc W5 (.cells (bs Y) 52)))
                have HB6 := Lib.hid ((HBj.out.trans (hb5'.mono HBj.out.size)).trans ((Same.alloc W5 (.cells (bs Y) 52)).mono (Nat.le_trans HBj.out.size hb5'.size)))
                have HR13 := Lib.hid (Row.fresh W5 52 (bs Y))
                clear C hb5' HAj HBj
                go_upto_region 30 with (refine wpList_store_row rfl 52 _ _ rfl W5.heap.size (bs Y) rfl rfl 52 _ (Row.fresh _ _ _) (by rw [size_bs, HY.out]; exact size_blk) (by rw [size_bs, size_bs, length_blk, HY.out]) (one_bs _) ?_; rw [World.setRow_alloc_new])
                clear hzb
                generalize W5.heap.size = g13 at *
                generalize W5.alloc (.cells (bs Y) 52) = W6 at *
                have hF0 : Wl [fun W => Below W6.heap.size W6 W] 0 W6.drew := (Below.refl _ _).drew
                refine wp_region_phs [is (.int .i64 0), is (.bool false), is (.bool false), is (.agg (bs Y)), is (.int .i64 (j : Int)), is (.int .i64 (200 + (j : Int))), is (.int .u8 (bd (byteOf (200 + (j : Int))))), is (.agg (bs Y)), is (.bool false), is (.bool false)] [true, true, true, true, true, true, true, true, true, true] [(fun W => Below W6.heap.size W6 W)] [false, false, false, false, false, false, false, false, false, false] [some 0, some 0, some 0, some 0, some 0, some 0, some 0, some 0, some 0, some 0] [some 145, some 146, some 147, some 148, some 149, some 150, some 151, some 152, some 153, some 154] 10 0 (fun _ => true) rfl rfl (by kernel_rfl) (by kernel_rfl) (by kernel_rfl) (by kernel_rfl) ?_ ?_ ?_ ?_ ?_ ?_
                · repeat first | exact wok_nil | refine wok_cons (by first | exact fun _ _ h k => h.trans (k.mono h.size)) ?_
                · repeat first | exact vok_nil | refine vok_rig (by first | exact fun _ _ _ h => h) ?_ | refine vok_soft (by first | exact fun _ _ _ h _ => h) ?_
                · exact hF0
                · repeat first | exact all_end (by decide) | refine all_cons (by first | exact rfl | exact ⟨rfl, fun _ _ h => Or.inl h⟩ | exact ⟨rfl, fun _ _ h => Or.inr ⟨h, rfl⟩⟩) ?_
                · refine allp_mild 0 rfl rfl rfl (fun a x_ W hout hin hP => ?_) ?_
                  · have e14 : a.tmps[14]? = some (.int .i64 0) := (hout 14 (by kernel_rfl)).trans rfl
                    exact does_move rfl e14 ⟨Same.refl _, rfl⟩
                  refine allp_mild 0 rfl rfl rfl (fun a x_ W hout hin hP => ?_) ?_
                  · have e145 := hin.is 0 145 (by kernel_rfl) (by decide) (by kernel_rfl) (by kernel_rfl) _ rfl
                    clear hin hout
                    intro K0 Q hK
                    go_simp
                    exact hK _ _ ⟨Same.refl _, rfl⟩
                  refine allp_mild 0 rfl rfl rfl (fun a x_ W hout hin hP => ?_) ?_
                  · have e146 := hin.is 1 146 (by kernel_rfl) (by decide) (by kernel_rfl) (by kernel_rfl) _ rfl
                    exact does_move rfl e146 ⟨Same.refl _, rfl⟩
                  refine allp_mild 0 rfl rfl rfl (fun a x_ W hout hin hP => ?_) ?_
                  · have e13 : a.tmps[13]? = some (.pointer (some ⟨g13, 0, none⟩)) := (hout 13 (by kernel_rfl)).trans rfl
                    have rr := row_range HR13.out hP HR13.out.lt
                    clear hin hout
                    intro K0 Q hK
                    exact wp_load_mid 52 (.tmp 13) rfl g13 0 (eval_of_get e13) (bs Y).toList _ rr Try.underlying52 rfl (by rw [len_bs, HY.out]; exact size_blk) (hK _ _ ⟨Same.refl _, by simp [Vs, is]⟩)
                  refine allp_mild 0 rfl rfl rfl (fun a x_ W hout hin hP => ?_) ?_
                  · have e12 : a.tmps[12]? = some (.int .i64 (j : Int)) := (hout 12 (by kernel_rfl)).trans rfl
                    exact does_move rfl e12 ⟨Same.refl _, rfl⟩
                  refine allp_mild 0 rfl rfl rfl (fun a x_ W hout hin hP => ?_) ?_
                  · have e149 := hin.is 4 149 (by kernel_rfl) (by decide) (by kernel_rfl) (by kernel_rfl) _ rfl
                    have e2 : IntKind.i64.wrap (200 + (j : Int)) = 200 + (j : Int) := i64_id _ (by omega) (by omega)
                    clear hin hout
                    intro K0 Q hK
                    go_simp
                    exact hK _ _ ⟨Same.refl _, rfl⟩
                  refine allp_mild 0 rfl rfl rfl (fun a x_ W hout hin hP => ?_) ?_
                  · have e150 := hin.is 5 150 (by kernel_rfl) (by decide) (by kernel_rfl) (by kernel_rfl) _ rfl
                    have hcv : IntKind.u8.wrap (200 + (j : Int)) = bd (byteOf (200 + (j : Int))) := wrap_u8_bd _
                    clear hin hout
                    intro K0 Q hK
                    go_simp
                    exact hK _ _ ⟨Same.refl _, rfl⟩
                  refine allp_mild 0 rfl rfl rfl (fun a x_ W hout hin hP => ?_) ?_
                  · have e151 := hin.is 6 151 (by kernel_rfl) (by decide) (by kernel_rfl) (by kernel_rfl) _ rfl
                    have C := fill_any (byteOf (200 + (j : Int))) W
                    rw [show blk (byteOf (200 + (j : Int))) = Y from HYV.out] at C
                    clear hP
                    clear hin hout
                    intro K0 Q hK
                    go_simp
                    refine C.mono ?_
                    rintro e W' ⟨rfl, hb⟩
                    exact hK _ _ ⟨hb, rfl⟩
                  refine allp_mild 0 rfl rfl rfl (fun a x_ W hout hin hP => ?_) ?_
                  · have e148 := hin.is 3 148 (by kernel_rfl) (by decide) (by kernel_rfl) (by kernel_rfl) _ rfl
                    have e152 := hin.is 7 152 (by kernel_rfl) (by decide) (by kernel_rfl) (by kernel_rfl) _ rfl
                    have q := eql_blk Y Y HY.out HY.out W
                    rw [decide_eq_true rfl] at q
                    clear hP
                    clear hin hout
                    intro K0 Q hK
                    go_simp
                    exact hK _ _ ⟨Same.refl _, rfl⟩
                  refine allp_mild 0 rfl rfl rfl (fun a x_ W hout hin hP => ?_) ?_
                  · have e147 := hin.is 2 147 (by kernel_rfl) (by decide) (by kernel_rfl) (by kernel_rfl) _ rfl
                    have e153 := hin.is 8 153 (by kernel_rfl) (by decide) (by kernel_rfl) (by kernel_rfl) _ rfl
                    exact does_pick rfl e147 ⟨Same.refl _, eval_of_get e153⟩
                  exact all_end (by decide)
                · intro x_ V hP hV
                  have HBV := Lib.hid hP
                  have h9 : x_ 9 = .bool false := hV 9 (by decide) (.inl (by kernel_rfl))
                  clear hP hV
                  simp only [putL, Act.put, List.setIfInBounds_toArray, List.set_cons_succ, List.set_cons_zero, h9]
                  refine wpAnyH_done (by kernel_rfl) ?_ _
                  clear h9
                  have HAV := Lib.hid (D.still HA6.out HBV.out)
                  have HBB := Lib.hid (HB6.out.trans (HBV.out.mono HB6.out.size))
                  go_wp2_with fail
                  exact ⟨⟨j + 1, by omega, by go_num, HAV.out, HBB.out⟩, by simp [intOf] <;> omega⟩
            · obtain rfl : j = 14 := by omega
              have hq : decide (((14 : Nat) : Int) < 14) = false := decide_eq_false (by omega)
              have HBB := Lib.hid HBj.out
              go_wp2_with fail
              refine (HW.out _).mono ?_
              rintro e Wz ⟨rfl, hbz⟩
              have hbb := HBB.out.trans (hbz.mono HBB.out.size)
              clear hbz
              go_wp2_with fail
              go_ret
              exact ⟨rfl, hbb⟩
end Go.Proofs.Ytdobempppobopaa

/- WalOver: for every list of records and byte the call returns true and changes nothing that it was handed. Conditions: those of the row. -/
set_option maxRecDepth 4000
namespace Go.Proofs.Ytdobempppobopaa.walOver
open Go Go.ChangeShapes Go.WideShapes Go.ChangeAt Go.RowKit

theorem contract (H : Type) (enc : TypeId × Value → H) (W : World) (base : Nat) (args : Array Value) (ds gs : List (DataW H)) (before : List MemPlace)
    (hval : ∀ (j : Nat) t v, Try.f6.params[j]? = some t → args[j]? = some v → Value.okWide Try.prog W .any base t v)
    (hW : DataW.Whole enc Try.prog Try.f6.params.toList Rows.walOverSpec.vars false W args.toList ds gs before) :
    Calls Try.prog 6 args W fun e W' => ∃ v, e = .returned v ∧ Rows.walOverSpec.post enc Try.prog Try.f6 false true false false W args v W' := by
  have hW' := hW
  obtain ⟨p, q, hA0, hV, rfl, _, _⟩ := hW
  have hA : DataW.TrodAll enc Try.prog W 0 (fun _ => true) true Try.f6.params.toList args.toList ds p := hA0
  rw [Try.params6] at hA hval
  obtain ⟨v0, vs0, d0, ds0, p0, q0, hargs, rfl, rfl, h0, r0⟩ := trodAll_cons hA
  obtain ⟨v1, vs1, d1, ds1, p1, q1, rfl, rfl, rfl, h1, r1⟩ := trodAll_cons r0
  obtain ⟨rfl, rfl, rfl⟩ := trodAll_nil r1
  obtain rfl : args = #[v0, v1] := by cases args; simp_all
  obtain ⟨rfl, rfl⟩ := trodVars_none hV
  have hlt0 : ∀ x ∈ p0, x.block < W.heap.size := fun x hx => hW'.lt x (by simp [hx])
  have hlt1 : ∀ x ∈ p1, x.block < W.heap.size := fun x hx => hW'.lt x (by simp [hx])
  obtain ⟨A0, c0, l0, rfl, hS0⟩ := open_recs (hval 0 73 v0 rfl rfl) h0 hlt0
  obtain ⟨n1, rfl⟩ := open_argU8 Try.underlying5 (hval 1 5 v1 rfl rfl) h1 hlt1
  refine (wover_walk diskOps walOps A0 c0 l0 n1 W hS0 ).mono fun e W' ⟨he, hb⟩ => ?_
  subst he
  exact ⟨_, rfl, [d0, d1], [], _, [], _, [], hW', trodAll_cons_mk (shut_bool Try.underlying4 _) trodAll_mk0, trodAll_cons_mk (Below.trod laidOutT (by kernel_rfl) (of_decide_eq_true (by kernel_rfl)) h0 hb hlt0) (trodAll_cons_mk (Below.trod laidOutT (by kernel_rfl) (of_decide_eq_true (by kernel_rfl)) h1 hb hlt1) trodAll_mk0), rfl, hb.frame _, fun h => by cases h⟩

set_option maxRecDepth 100000 in
theorem lifted (os : Os) (started : os.Started) (H : Type) (enc : TypeId × Value → H) :
    ReturnsInHanded {} Try.checked os 6 .any (Rows.walOverSpec.pre6 enc Try.prog Try.f6 Rows.walOverRow.domain false) (Rows.walOverSpec.post enc Try.prog Try.f6 false true false false) := by
  refine returnsInHanded_of_change (C := Try.checked) ownK started (by kernel_rfl) Try.func6
    (ChangeSpec.witness6 (enc := enc) (C := Try.checked) false ⟨#[], #[.slice none 0 0, .int .u8 0], []⟩ 8 (by kernel_rfl) (by kernel_rfl) (by kernel_rfl) (by kernel_rfl)) ?_
  intro W base args ds gs before hval hW _ _
  exact contract H enc W base args ds gs before hval hW

theorem said : Rows.WalOverSaid :=
  OpenClaim.holds_of_wide 6 Try.f6 rfl rfl rfl rfl rfl rfl rfl ⟨rfl, rfl, rfl, rfl, rfl⟩ rfl rfl rfl rfl rfl (by kernel_rfl) Try.func6 (by kernel_rfl)
    (of_decide_eq_true (by kernel_rfl)) (by unfold Func.isWrapper; first | (rw [if_pos (by decide +kernel)]; kernel_rfl) | (rw [if_neg (by decide +kernel)]; exact ⟨rfl, rfl⟩))
    (fun os started H enc _ => lifted os started H enc)
end Go.Proofs.Ytdobempppobopaa.walOver
