/- The statement CrcMixes: its walk. -/
import Derived.Test.YtcgihbjndnlilaaCParts
namespace Go.Proofs.Ytcgihbjndnlilaa
open Go Go.RowKit
theorem mixes_val (a b c : List (BitVec 8)) (h1 : a.length = b.length) (h2 : a.length = c.length) :
    crcOf [a].flatten ^^^ crcOf [b].flatten ^^^ crcOf [c].flatten = crcOf [List.zipWith (· ^^^ ·) (List.zipWith (· ^^^ ·) a b) c].flatten := by
  have e : ∀ q : List (BitVec 8), ([q] : List (List (BitVec 8))).flatten = q := fun q => by simp
  rw [e, e, e, e]
  unfold crcOf
  have h := crcMore_xor3 0xffff#16 0xffff#16 0xffff#16 a b c h1 h2
  rw [show (0xffff#16 ^^^ 0xffff#16 ^^^ 0xffff#16) = 0xffff#16 from rfl] at h
  rw [h]
  generalize crcMore 0xffff#16 a = x
  generalize crcMore 0xffff#16 b = y
  generalize crcMore 0xffff#16 c = z
  have f : ∀ u : BitVec 16, ~~~u = u ^^^ BitVec.allOnes 16 := fun u => by rw [BitVec.xor_allOnes]
  rw [f x, f y, f z, f (x ^^^ y ^^^ z)]
  have g : BitVec.allOnes 16 ^^^ BitVec.allOnes 16 = 0#16 := BitVec.xor_self
  calc _ = (x ^^^ y ^^^ z ^^^ BitVec.allOnes 16) ^^^ (BitVec.allOnes 16 ^^^ BitVec.allOnes 16) := by ac_rfl
    _ = _ := by rw [g, BitVec.xor_zero]
attribute [local go_sem] xor_bd xor_hd
set_option maxRecDepth 20000 in
set_option maxHeartbeats 1600000 in
theorem mixes_walk (Aa : Option Addr) (ca : Nat) (a : List (BitVec 8)) (Ab : Option Addr) (cb : Nat) (b : List (BitVec 8)) (Ac : Option Addr) (cc : Nat) (c : List (BitVec 8)) (w : World)
    (hSa : Slice w (.slice Aa a.length ca) a) (_ : Aa = none → ca = 0) (hma : a.length ≤ maxLen) (hSb : Slice w (.slice Ab b.length cb) b) (_ : Ab = none → cb = 0) (hmb : b.length ≤ maxLen) (hSc : Slice w (.slice Ac c.length cc) c) (_ : Ac = none → cc = 0) (hmc : c.length ≤ maxLen) :
    Calls Try.prog 7 #[.slice Aa a.length ca, .slice Ab b.length cb, .slice Ac c.length cc] w fun e w' => e = .returned (.bool true) ∧ Below w.heap.size w w' := by
  have HSa := Lib.hid hSa
  have HSb := Lib.hid hSb
  have HSc := Lib.hid hSc
  unfold maxLen at hma hmb hmc
  clear hSa hSb hSc
  obtain ⟨n, hn⟩ : ∃ n, a.length = n := ⟨_, rfl⟩
  obtain ⟨nb, hnb⟩ : ∃ n, b.length = n := ⟨_, rfl⟩
  obtain ⟨nc, hnc⟩ : ∃ n, c.length = n := ⟨_, rfl⟩
  have HLa := Lib.hid hn
  have HLb := Lib.hid hnb
  have HLc := Lib.hid hnc
  rw [hn] at HSa hma ⊢
  rw [hnb] at HSb hmb ⊢
  rw [hnc] at HSc hmc ⊢
  clear hn hnb hnc
  by_cases hne : n = nb ∧ n = nc
  · obtain ⟨rfl, rfl⟩ := hne
    by_cases hbig : 1000 < n
    · have d0 : decide ((1000 : Int) < (n : Int)) = true := decide_eq_true (by omega)
      go_enter Try.func7, Try.ntmps7
      go_wp2_with fail
      all_goals
        refine (cwakes_any _).mono ?_
        rintro e w1 ⟨rfl, hb⟩
        go_wp2_with fail
        go_ret
        exact ⟨rfl, hb⟩
    · have d0 : decide ((1000 : Int) < (n : Int)) = false := decide_eq_false (by omega)
      go_enter Try.func7, Try.ntmps7
      go_wp2_with fail
      obtain ⟨D, hD⟩ : ∃ D, List.zipWith (· ^^^ ·) (List.zipWith (· ^^^ ·) a b) c = D := ⟨_, rfl⟩
      have HDl : Hid (D.length = n) := Lib.hid (by rw [← hD]; simp [HLa.out, HLb.out, HLc.out])
      have HV := Lib.hid (mixes_val a b c (HLa.out.trans HLb.out.symm) (HLa.out.trans HLc.out.symm))
      rw [hD] at HV
      have HDk0 : Hid (∀ k (h1 : k < a.length) (h2 : k < b.length) (h3 : k < c.length), D.take (k + 1) = D.take k ++ [a[k] ^^^ b[k] ^^^ c[k]]) := Lib.hid fun k h1 h2 h3 => by
        rw [List.take_succ_eq_append_getElem (by rw [HDl.out, ← HLa.out]; exact h1)]
        simp [← hD]
      clear hD
      go_loopw [7, 8] (fun v i wr => ∃ k : Nat, k ≤ n ∧ i = .int .i64 k ∧ wr.ownsRow w.heap.size 5 1 v k (bytesV (D.take k)) ∧ Below w.heap.size w wr) (fun _ i _ => n - (intOf i).toNat)
      case atStart => exact ⟨0, by omega, rfl, by simpa [bytesV] using World.ownsRow_nil _ _ _ _, Below.refl _ _⟩
      case round =>
        obtain ⟨k, hk, rfl, own, hbr⟩ := hrel
        by_cases hlt : k < n
        · have ga := HSa.out
          obtain ⟨_, _, e1, _, ha⟩ := ga
          injection e1 with e1 e2 e3
          subst e1
          clear e2 e3
          obtain ⟨ba, oa, rfl, hba, ka⟩ := ha (by intro e; have := HLa.out; rw [e] at this; simp at this; omega)
          have gb := HSb.out
          obtain ⟨_, _, e1, _, ha⟩ := gb
          injection e1 with e1 e2 e3
          subst e1
          clear e2 e3
          obtain ⟨bb, ob, rfl, hbb, kb⟩ := ha (by intro e; have := HLb.out; rw [e] at this; simp at this; omega)
          have gc := HSc.out
          obtain ⟨_, _, e1, _, ha⟩ := gc
          injection e1 with e1 e2 e3
          subst e1
          clear e2 e3
          obtain ⟨bc, oc, rfl, hbc, kc⟩ := ha (by intro e; have := HLc.out; rw [e] at this; simp at this; omega)
          have la : k < a.length := by rw [HLa.out]; exact hlt
          have lb : k < b.length := by rw [HLb.out]; exact hlt
          have lc : k < c.length := by rw [HLc.out]; exact hlt
          have Kxa := Lib.hid ((hbr.cell (p := ⟨ba, oa + k, none⟩) hba).trans (ka k a[k] (List.getElem?_eq_getElem la)))
          have Kxb := Lib.hid ((hbr.cell (p := ⟨bb, ob + k, none⟩) hbb).trans (kb k b[k] (List.getElem?_eq_getElem lb)))
          have Kxc := Lib.hid ((hbr.cell (p := ⟨bc, oc + k, none⟩) hbc).trans (kc k c[k] (List.getElem?_eq_getElem lc)))
          have HDk := Lib.hid (HDk0.out k la lb lc)
          clear ka kb kc HDk0
          generalize a[k] = xa at *
          generalize b[k] = xb at *
          generalize c[k] = xc at *
          clear la lb lc
          have hk0 : (0 : Int) ≤ (k : Int) := by omega
          have hk1 : (k : Int) < (n : Int) := by omega
          go_wp2_with fail
          refine wp_region_vs (wr.heap.size) [is (u7), is (.slice (some ⟨ba, oa, none⟩) n ca), is (.int .i64 (k : Int)), is (.pointer (some ⟨ba, oa + k, none⟩)), is (.int .u8 (bd xa)), is (.slice (some ⟨bb, ob, none⟩) n cb), is (.int .i64 (k : Int)), is (.pointer (some ⟨bb, ob + k, none⟩)), is (.int .u8 (bd xb)), is (.int .u8 (bd (xa ^^^ xb))), is (.slice (some ⟨bc, oc, none⟩) n cc), is (.int .i64 (k : Int)), is (.pointer (some ⟨bc, oc + k, none⟩)), is (.int .u8 (bd xc)), is (.int .u8 (bd (xa ^^^ xb ^^^ xc))), (lit wr.heap.size [xa ^^^ xb ^^^ xc])] [some 33, some 34, some 35, some 36, some 37, some 38, some 39, some 40, some 41, some 42, some 43, some 44, some 45, some 46, some 47, some 48] 16 18 (fun _ => true) rfl rfl rfl (by kernel_rfl) (by kernel_rfl) ?_ ?_ ?_ ?_
          · repeat first | exact stays_nil _ | refine stays_cons (by first | exact is_stays _ _ | exact lit_stays _ _ | exact sl_stays _ _ | exact pts_stays _ _ | exact hnd_stays _ _ | exact any_stays _) ?_
          · repeat first | exact all_end (by decide) | refine all_cons (by first | exact rfl | exact fun _ _ _ h => h) ?_
          · refine all_step rfl (fun a x W hR hout hin => ?_) ?_
            · have e7 : a.tmps[7]? = some (u7) := (hout 7 (by kernel_rfl)).trans rfl
              exact does_move rfl e7 ⟨Keeps.refl _ _, rfl⟩
            refine all_step rfl (fun a x W hR hout hin => ?_) ?_
            · have e0 : a.tmps[0]? = some (.slice (some ⟨ba, oa, none⟩) n ca) := (hout 0 (by kernel_rfl)).trans rfl
              exact does_move rfl e0 ⟨Keeps.refl _ _, rfl⟩
            refine all_step rfl (fun a x W hR hout hin => ?_) ?_
            · have e8 : a.tmps[8]? = some (.int .i64 (k : Int)) := (hout 8 (by kernel_rfl)).trans rfl
              exact does_move rfl e8 ⟨Keeps.refl _ _, rfl⟩
            refine all_step rfl (fun a x W hR hout hin => ?_) ?_
            · have e34 := hin.is 1 34 (by kernel_rfl) (by decide) (by kernel_rfl) _ rfl
              have e35 := hin.is 2 35 (by kernel_rfl) (by decide) (by kernel_rfl) _ rfl
              clear hin hout
              intro K Q hK
              go_simp
              exact hK _ _ ⟨Keeps.refl _ _, rfl⟩
            refine all_step rfl (fun a x W hR hout hin => ?_) ?_
            · have e36 := hin.is 3 36 (by kernel_rfl) (by decide) (by kernel_rfl) _ rfl
              have hc := hR.cell (a := ⟨ba, oa + k, none⟩) Kxa.out
              clear hin hout
              intro K Q hK
              go_simp
              exact hK _ _ ⟨Keeps.refl _ _, rfl⟩
            refine all_step rfl (fun a x W hR hout hin => ?_) ?_
            · have e1 : a.tmps[1]? = some (.slice (some ⟨bb, ob, none⟩) n cb) := (hout 1 (by kernel_rfl)).trans rfl
              exact does_move rfl e1 ⟨Keeps.refl _ _, rfl⟩
            refine all_step rfl (fun a x W hR hout hin => ?_) ?_
            · have e8 : a.tmps[8]? = some (.int .i64 (k : Int)) := (hout 8 (by kernel_rfl)).trans rfl
              exact does_move rfl e8 ⟨Keeps.refl _ _, rfl⟩
            refine all_step rfl (fun a x W hR hout hin => ?_) ?_
            · have e38 := hin.is 5 38 (by kernel_rfl) (by decide) (by kernel_rfl) _ rfl
              have e39 := hin.is 6 39 (by kernel_rfl) (by decide) (by kernel_rfl) _ rfl
              clear hin hout
              intro K Q hK
              go_simp
              exact hK _ _ ⟨Keeps.refl _ _, rfl⟩
            refine all_step rfl (fun a x W hR hout hin => ?_) ?_
            · have e40 := hin.is 7 40 (by kernel_rfl) (by decide) (by kernel_rfl) _ rfl
              have hc := hR.cell (a := ⟨bb, ob + k, none⟩) Kxb.out
              clear hin hout
              intro K Q hK
              go_simp
              exact hK _ _ ⟨Keeps.refl _ _, rfl⟩
            refine all_step rfl (fun a x W hR hout hin => ?_) ?_
            · have e37 := hin.is 4 37 (by kernel_rfl) (by decide) (by kernel_rfl) _ rfl
              have e41 := hin.is 8 41 (by kernel_rfl) (by decide) (by kernel_rfl) _ rfl
              clear hin hout
              intro K Q hK
              go_simp
              exact hK _ _ ⟨Keeps.refl _ _, rfl⟩
            refine all_step rfl (fun a x W hR hout hin => ?_) ?_
            · have e2 : a.tmps[2]? = some (.slice (some ⟨bc, oc, none⟩) n cc) := (hout 2 (by kernel_rfl)).trans rfl
              exact does_move rfl e2 ⟨Keeps.refl _ _, rfl⟩
            refine all_step rfl (fun a x W hR hout hin => ?_) ?_
            · have e8 : a.tmps[8]? = some (.int .i64 (k : Int)) := (hout 8 (by kernel_rfl)).trans rfl
              exact does_move rfl e8 ⟨Keeps.refl _ _, rfl⟩
            refine all_step rfl (fun a x W hR hout hin => ?_) ?_
            · have e43 := hin.is 10 43 (by kernel_rfl) (by decide) (by kernel_rfl) _ rfl
              have e44 := hin.is 11 44 (by kernel_rfl) (by decide) (by kernel_rfl) _ rfl
              clear hin hout
              intro K Q hK
              go_simp
              exact hK _ _ ⟨Keeps.refl _ _, rfl⟩
            refine all_step rfl (fun a x W hR hout hin => ?_) ?_
            · have e45 := hin.is 12 45 (by kernel_rfl) (by decide) (by kernel_rfl) _ rfl
              have hc := hR.cell (a := ⟨bc, oc + k, none⟩) Kxc.out
              clear hin hout
              intro K Q hK
              go_simp
              exact hK _ _ ⟨Keeps.refl _ _, rfl⟩
            refine all_step rfl (fun a x W hR hout hin => ?_) ?_
            · have e42 := hin.is 9 42 (by kernel_rfl) (by decide) (by kernel_rfl) _ rfl
              have e46 := hin.is 13 46 (by kernel_rfl) (by decide) (by kernel_rfl) _ rfl
              clear hin hout
              intro K Q hK
              go_simp
              exact hK _ _ ⟨Keeps.refl _ _, rfl⟩
            refine all_step rfl (fun a x W hR hout hin => ?_) ?_
            · have e47 := hin.is 14 47 (by kernel_rfl) (by decide) (by kernel_rfl) _ rfl
              clear hin hout
              intro K Q hK
              go_simp
              exact hK _ _ ⟨Keeps.alloc _ _ hR.below.size, lit_new W [xa ^^^ xb ^^^ xc] hR.below.size⟩
            exact all_end (by decide)
          · intro X W hKW hV
            have h0 : X 0 = u7 := hV 0 (by decide)
            have h15 : lit wr.heap.size [xa ^^^ xb ^^^ xc] (X 15) W := hV 15 (by decide)
            clear hV
            simp only [putL, Act.put, List.setIfInBounds_toArray, List.set_cons_succ, List.set_cons_zero, h0]
            have s15 := lit_sl h15
            obtain ⟨g15, fr15, e15, _, _⟩ := h15
            rw [e15] at s15 ⊢
            have ownW := owns_call own ((Below.refl wr.heap.size wr).drew.trans hKW.below)
            have hbW := hbr.trans ((Below.refl w.heap.size wr).drew.trans (hKW.below.mono hbr.size))
            refine anyH_one (i := 16) (o := { dst := some 49, op := _, type := _, pos := _, after := _, guard := none }) (by kernel_rfl) rfl (fun K hK => ?_)
            refine wp_append_slice (.tmp 33) (.tmp 48) rfl w.heap.size _ k (bytesV (D.take k)) rfl ownW _ 1 1 [xa ^^^ xb ^^^ xc] rfl s15 (fun h => by cases h) (by omega) hbW.size ?_
            intro v2 w2 own2 hb2
            refine hK _ _ trivial ?_
            clear hK K
            refine anyH_one (i := 17) (o := { dst := some 7, op := _, type := _, pos := _, after := _, guard := none }) (by kernel_rfl) rfl (fun K hK => ?_)
            go_simp
            refine hK _ _ trivial ?_
            clear hK K
            refine wpAnyH_done (by kernel_rfl) ?_ _
            go_wp2_with fail
            go_roundw
            case rel => exact ⟨k + 1, by omega, by go_num, by rw [HDk.out]; simpa [bytesV] using own2, hbW.trans hb2⟩
            case measure => simp [intOf]; omega
        · obtain rfl : k = n := by omega
          rw [show D.take k = D by rw [← HDl.out, List.take_length]] at own
          clear HDk0
          obtain ⟨Ad, cd, rfl⟩ := own_form own
          have sd := own_slice (q := D) (by rw [HDl.out]; exact own)
          have sa := HSa.out.below hbr (Nat.le_refl _)
          have sb := HSb.out.below hbr (Nat.le_refl _)
          have sc := HSc.out.below hbr (Nat.le_refl _)
          clear own HSa HSb HSc
          have HQ : Hid (∀ q : List (BitVec 8), q.length = k → ∀ p ∈ [q], p.length ≤ maxLen) := Lib.hid fun q hq p hp => by
            rw [List.mem_singleton.1 hp, hq]; unfold maxLen; omega
          obtain ⟨R1, h1⟩ : ∃ R, crcOf [a].flatten = R := ⟨_, rfl⟩
          obtain ⟨R2, h2⟩ : ∃ R, crcOf [b].flatten = R := ⟨_, rfl⟩
          obtain ⟨R3, h3⟩ : ∃ R, crcOf [c].flatten = R := ⟨_, rfl⟩
          obtain ⟨R4, h4⟩ : ∃ R, crcOf [D].flatten = R := ⟨_, rfl⟩
          have H1 := Lib.hid h1
          have H2 := Lib.hid h2
          have H3 := Lib.hid h3
          have H4 := Lib.hid h4
          have HV2 : Hid (R1 ^^^ R2 ^^^ R3 = R4) := Lib.hid (by rw [← h1, ← h2, ← h3, ← h4]; exact HV.out)
          clear h1 h2 h3 h4 HV
          have C1 := check_at [a] _ _ (parts1 sa) (by simp [maxLen]) (HQ.out a HLa.out) R1 H1.out
          have hb1 := (Below.refl wr.heap.size wr).alloc (Nat.le_refl _) (.cells #[.slice Aa k ca] 26)
          have sb := sb.below hb1 (Nat.le_refl _)
          have sc := sc.below hb1 (Nat.le_refl _)
          have sd := sd.below hb1 (Nat.le_refl _)
          go_wp2_with fail
          refine C1.mono ?_
          rintro e w1 ⟨rfl, rfl⟩
          have hb1 := hbr.trans (hb1.mono hbr.size)
          clear C1 sa hbr
          generalize wr.alloc (.cells #[.slice Aa k ca] 26) = w1 at *
          have C1 := check_at [b] _ _ (parts1 sb) (by simp [maxLen]) (HQ.out b HLb.out) R2 H2.out
          have hb2 := (Below.refl w1.heap.size w1).alloc (Nat.le_refl _) (.cells #[.slice Ab k cb] 26)
          have sc := sc.below hb2 (Nat.le_refl _)
          have sd := sd.below hb2 (Nat.le_refl _)
          go_wp2_with fail
          refine C1.mono ?_
          rintro e w2 ⟨rfl, rfl⟩
          have hb2 := hb1.trans (hb2.mono hb1.size)
          clear C1 sb hb1
          generalize w1.alloc (.cells #[.slice Ab k cb] 26) = w2 at *
          have C1 := check_at [c] _ _ (parts1 sc) (by simp [maxLen]) (HQ.out c HLc.out) R3 H3.out
          have hb3 := (Below.refl w2.heap.size w2).alloc (Nat.le_refl _) (.cells #[.slice Ac k cc] 26)
          have sd := sd.below hb3 (Nat.le_refl _)
          go_wp2_with fail
          refine C1.mono ?_
          rintro e w3 ⟨rfl, rfl⟩
          have hb3 := hb2.trans (hb3.mono hb2.size)
          clear C1 sc hb2
          generalize w2.alloc (.cells #[.slice Ac k cc] 26) = w3 at *
          have C1 := check_at [D] _ _ (parts1 sd) (by simp [maxLen]) (HQ.out D HDl.out) R4 H4.out
          have hb4 := hb3.alloc hb3.size (.cells #[.slice Ad k cd] 26)
          go_wp2_with fail
          refine C1.mono ?_
          rintro e w4 ⟨rfl, rfl⟩
          have q4 : (hd (R1 ^^^ R2 ^^^ R3) == hd R4) = true := by rw [HV2.out]; exact beq_self_eq_true _
          clear C1 sd hb3
          generalize w3.alloc (.cells #[.slice Ad k cd] 26) = w4 at *
          go_wp2_with fail
          refine (cwakes_any w4).mono ?_
          rintro e w5 ⟨rfl, hb5⟩
          go_wp2_with fail
          go_ret
          exact ⟨rfl, hb4.trans (hb5.mono hb4.size)⟩
  · by_cases hor : (decide ((1000 : Int) < (n : Int)) || ((n : Int) != (nb : Int))) = true
    · go_enter Try.func7, Try.ntmps7
      go_wp2_with fail
      all_goals
        refine (cwakes_any _).mono ?_
        rintro e w1 ⟨rfl, hb⟩
        go_wp2_with fail
        go_ret
        exact ⟨rfl, hb⟩
    · have hnn : n = nb := by
        by_cases h : n = nb
        · exact h
        · exact absurd (by rw [show ((n : Int) != (nb : Int)) = true from bne_iff_ne.2 (by omega)]; exact Bool.or_true _) hor
      subst hnn
      have hd : (decide ((1000 : Int) < (n : Int)) || ((n : Int) != (nc : Int))) = true := by
        rw [show ((n : Int) != (nc : Int)) = true from bne_iff_ne.2 (by omega)]; exact Bool.or_true _
      clear hor hne
      go_enter Try.func7, Try.ntmps7
      go_wp2_with fail
      all_goals
        refine (cwakes_any _).mono ?_
        rintro e w1 ⟨rfl, hb⟩
        go_wp2_with fail
        go_ret
        exact ⟨rfl, hb⟩
end Go.Proofs.Ytcgihbjndnlilaa
