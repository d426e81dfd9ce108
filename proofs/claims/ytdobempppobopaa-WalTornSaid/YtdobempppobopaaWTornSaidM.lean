/- WalTorn: for every two records and two bytes the call returns true and changes nothing that it was handed. Conditions: those of the row. -/
import Derived.Deep.DeepCutAuto
import Derived.Deep.CutBlock
import Derived.Test.YtdobempppobopaaRows
import Derived.Test.YtdobempppobopaaMWal0
import Derived.Test.YtdobempppobopaaMWal1
import Derived.Test.YtdobempppobopaaMGen0
import Derived.Test.YtdobempppobopaaMGen1
/- The statement WalTorn: its walk. -/
set_option maxRecDepth 4000
namespace Go.Proofs.Ytdobempppobopaa
open Go Go.RowKit
theorem mod10 (z : Int) (h : 0 ≤ z) : ∃ K : Nat, z.tmod 10 = (K : Int) ∧ K < 10 := by
  rw [Int.tmod_eq_emod_of_nonneg h]
  exact ⟨(z % 10).toNat, by omega, by omega⟩
theorem and_any (a : Int) : bits BinOp.and IntKind.u8 a 1 = bd (BitVec.ofInt 8 a &&& 1#8) := by
  show IntKind.u8.wrap ((BitVec.ofInt 8 a &&& BitVec.ofInt 8 1).toNat : Int) = _
  exact wrap_bd _
theorem rec_eq (R : Rec) (e s : BitVec 32) (l : List (Int × List (BitVec 8))) : decide (R = ⟨e, s, l⟩) = (decide (R.e = e) && (decide (R.s = s) && decide (R.l = l))) := by
  obtain ⟨a, b, c⟩ := R
  by_cases h1 : a = e <;> by_cases h2 : b = s <;> by_cases h3 : c = l <;> simp [h1, h2, h3]
theorem eq_wd (x y : BitVec 32) : (wd x == wd y) = decide (x = y) := by
  by_cases h : x = y
  · subst h; simp
  · rw [decide_eq_false h]; simp; exact fun e => h (wd_inj e)
theorem good_len {l : List (Int × List (BitVec 8))} (h : goodB (l.map (·.1)) = true) : 1 ≤ l.length ∧ l.length ≤ 5 := by
  unfold goodB at h
  simp only [Bool.and_eq_true, decide_eq_true_eq, List.length_map] at h
  exact h.2
set_option maxRecDepth 20000 in
set_option maxHeartbeats 1600000 in
theorem wtorn_walk (D : DiskOps) (O : WalOps D) (e3 s3 : BitVec 32) (A3 : Option Addr) (c3 : Nat) (l3 : List (Int × List (BitVec 8))) (e4 s4 : BitVec 32) (A4 : Option Addr) (c4 : Nat) (l4 : List (Int × List (BitVec 8))) (q : List (BitVec 8)) (w : World)
    (hv3 : PutsAt w (.slice A3 l3.length c3) l3) (hm3 : l3.length ≤ maxLen) (hv4 : PutsAt w (.slice A4 l4.length c4) l4) (hm4 : l4.length ≤ maxLen) (hq2 : q.length = 2) :
    Calls Try.prog 4 #[.agg (recW ⟨e3, s3, l3⟩ (.slice A3 l3.length c3)), .agg (recW ⟨e4, s4, l4⟩ (.slice A4 l4.length c4)), .agg (bs q)] w fun e w' => e = .returned (.bool true) ∧ Below w.heap.size w w' := by
  have HW := Lib.hid (fun W => wwakes_any D O W)
  obtain ⟨n3, hn3⟩ : ∃ n, l3.length = n := ⟨_, rfl⟩
  obtain ⟨n4, hn4⟩ : ∃ n, l4.length = n := ⟨_, rfl⟩
  have HN3 := Lib.hid hn3
  have HN4 := Lib.hid hn4
  have HV3 := Lib.hid hv3
  have HV4 := Lib.hid hv4
  obtain ⟨X3, hX3⟩ : ∃ X, recW ⟨e3, s3, l3⟩ (.slice A3 l3.length c3) = X := ⟨_, rfl⟩
  obtain ⟨X4, hX4⟩ : ∃ X, recW ⟨e4, s4, l4⟩ (.slice A4 l4.length c4) = X := ⟨_, rfl⟩
  have HX3 : Hid (X3[0]? = some (.int .u32 (wd e3)) ∧ X3[1]? = some (.int .u32 (wd s3)) ∧ X3[2]? = some (.slice A3 n3 c3) ∧ (Try.prog.info? 36).map (·.size) = some X3.size) := Lib.hid (by rw [← hX3, ← hn3]; exact ⟨rfl, rfl, rfl, size_recW⟩)
  have HX4 : Hid (X4[0]? = some (.int .u32 (wd e4)) ∧ X4[1]? = some (.int .u32 (wd s4)) ∧ X4[2]? = some (.slice A4 n4 c4) ∧ (Try.prog.info? 36).map (·.size) = some X4.size) := Lib.hid (by rw [← hX4, ← hn4]; exact ⟨rfl, rfl, rfl, size_recW⟩)
  have hown : ∀ (A : Option Addr) (c : Nat) (l : List (Int × List (BitVec 8))), PutsAt w (.slice A l.length c) l → l ≠ [] → ∀ k, (Value.slice A l.length c).ownBlock = some k → k < w.heap.size := fun A c l hv hne k hk => by
    obtain ⟨A', c', e1, _, _, h4⟩ := hv
    obtain ⟨b, o, rfl, h6, _⟩ := h4 hne
    injection e1 with e1 _ _
    subst e1
    cases hk
    exact h6
  have HP3 : Hid (∀ B W p M F, D.A B W p M F → w.heap.size ≤ B → B ≤ W.heap.size → PutsAt W (.slice A3 n3 c3) l3 → n3 ≤ 1000 → M.l.length + 10 ≤ few → Calls Try.prog 12 #[p, .int .i64 1, .agg X3] W (Acts D.A B W p F (walPut M 1 ⟨e3, s3, l3⟩).2 (.int .i64 (walPut M 1 ⟨e3, s3, l3⟩).1))) := Lib.hid (fun B W p M F h1 h2 h3 h4 h5 h6 => by
    have := O.put B W p M F 1 e3 s3 A3 c3 l3 h1 (by decide) (by rw [hn3]; exact h4) (by unfold maxLen; omega) (fun hne k hk => by have h7 := hown A3 c3 l3 hv3 hne k hk; exact ⟨by omega, fun hf => by have := (D.lt h1 k hf).1; omega⟩) h6 h3
    rw [hX3] at this
    exact this)
  have HP4 : Hid (∀ B W p M F, D.A B W p M F → w.heap.size ≤ B → B ≤ W.heap.size → PutsAt W (.slice A4 n4 c4) l4 → n4 ≤ 1000 → M.l.length + 10 ≤ few → Calls Try.prog 12 #[p, .int .i64 1, .agg X4] W (Acts D.A B W p F (walPut M 1 ⟨e4, s4, l4⟩).2 (.int .i64 (walPut M 1 ⟨e4, s4, l4⟩).1))) := Lib.hid (fun B W p M F h1 h2 h3 h4 h5 h6 => by
    have := O.put B W p M F 1 e4 s4 A4 c4 l4 h1 (by decide) (by rw [hn4]; exact h4) (by unfold maxLen; omega) (fun hne k hk => by have h7 := hown A4 c4 l4 hv4 hne k hk; exact ⟨by omega, fun hf => by have := (D.lt h1 k hf).1; omega⟩) h6 h3
    rw [hX4] at this
    exact this)
  rw [hX3, hX4]
  rw [hn3] at HV3
  rw [hn4] at HV4
  have HQ2 := Lib.hid hq2
  have HM3 := Lib.hid hm3
  have HM4 := Lib.hid hm4
  clear hn3 hn4 hX3 hX4 hv3 hv4 hown hq2 hm3 hm4
  have HS := St.nil w noF
  go_enter Try.func4, Try.ntmps4
  go_upto_region 1 with (first | ((with_reducible refine wpList_plain ?_ ?_); exact rfl; intro KK hKK; refine wp_st_box HS 36 (.tmp 0) rfl _ rfl (X3) (rfl) (fun g3 W1 HSx => hKK _ _ ?_); clear hKK KK HS; have HS : St w noF [⟨g3, 36, X3⟩] W1 := HSx; clear HSx) | ((with_reducible refine wpList_plain ?_ ?_); exact rfl; intro KK hKK; refine wp_st_box HS 36 (.tmp 1) rfl _ rfl (X4) (rfl) (fun g4 W2 HSx => hKK _ _ ?_); clear hKK KK HS; have HS : St w noF [⟨g3, 36, X3⟩, ⟨g4, 36, X4⟩] W2 := HSx; clear HSx) | ((with_reducible refine wpList_plain ?_ ?_); exact rfl; intro KK hKK; refine wp_st_box HS 67 (.tmp 2) rfl _ rfl (bs q) (rfl) (fun g5 W3 HSx => hKK _ _ ?_); clear hKK KK HS; have HS : St w noF [⟨g3, 36, X3⟩, ⟨g4, 36, X4⟩, ⟨g5, 67, bs q⟩] W3 := HSx; clear HSx))
  have HR3 := Lib.hid (HS.row 0 rfl)
  have HR4 := Lib.hid (HS.row 1 rfl)
  have HR5 := Lib.hid (HS.row 2 rfl)
  have HBW := Lib.hid HS.below
  have HZ3 := Lib.hid (HV3.out.below HS.below (Nat.le_refl _))
  have HZ4 := Lib.hid (HV4.out.below HS.below (Nat.le_refl _))
  clear HS HV3 HV4
  obtain ⟨B1, hB1⟩ : ∃ B, W3.heap.size = B := ⟨_, rfl⟩
  have HB1 := Lib.hid hB1
  clear hB1
  have k32 := HR3.out.get HX3.out.2.2.1
  have C := refgood_any l3 (.slice A3 n3 c3) W3 HZ3.out HM3.out
  go_wp2_with fail
  refine C.mono ?_
  rintro e W4 ⟨rfl, hb4⟩
  have HB4 : Hid (Below B1 W3 W4) := Lib.hid (by rw [← HB1.out]; exact hb4)
  have HBW4 := Lib.hid (HBW.out.trans (hb4.mono HBW.out.size))
  clear C hb4 k32
  cases hg3 : goodB (l3.map (·.1)) with
  | false =>
    go_wp2_with fail
    refine (HW.out _).mono ?_
    rintro e Wz ⟨rfl, hbz⟩
    have hbb := HBW4.out.trans (hbz.mono HBW4.out.size)
    clear hbz
    go_wp2_with fail
    go_ret
    exact ⟨rfl, hbb⟩
  | true =>
    have HG3 := Lib.hid hg3
    have k42 := (HR4.out.below HB4.out (by rw [← HB1.out]; exact HR4.out.lt)).get HX4.out.2.2.1
    have C := refgood_any l4 (.slice A4 n4 c4) W4 (HZ4.out.below HB4.out (Nat.le_of_eq HB1.out)) HM4.out
    clear hg3
    go_wp2_with fail
    refine C.mono ?_
    rintro e W5 ⟨rfl, hb5⟩
    have HB5 : Hid (Below B1 W3 W5) := Lib.hid (HB4.out.trans (hb5.mono (by rw [← HB1.out]; exact HB4.out.size)))
    have HBW5 := Lib.hid (HBW4.out.trans (hb5.mono HBW4.out.size))
    clear C hb5 k42 HB4 HBW4
    cases hg4 : goodB (l4.map (·.1)) with
    | false =>
      go_wp2_with fail
      refine (HW.out _).mono ?_
      rintro e Wz ⟨rfl, hbz⟩
      have hbb := HBW5.out.trans (hbz.mono HBW5.out.size)
      clear hbz
      go_wp2_with fail
      go_ret
      exact ⟨rfl, hbb⟩
    | true =>
      have HG4 := Lib.hid hg4
      clear hg4
      have HL3 := Lib.hid (good_len HG3.out)
      have HL4 := Lib.hid (good_len HG4.out)
      have hs5 : B1 ≤ W5.heap.size := by rw [← HB1.out]; exact HB5.out.size
      have HS5 := Lib.hid hs5
      have C := D.new B1 W5 7 hs5 (by decide)
      rw [makes_yes _ _ _ _ (by decide)] at C
      clear hs5
      go_wp2_with fail
      refine C.mono ?_
      rintro e W6 ⟨g, F6, rfl, hA, hb6, _⟩
      have hA : D.A B1 W6 (.pointer (some ⟨g, 0, none⟩)) (DiskM.new 7) F6 := hA
      have HA6 := Lib.hid hA
      have HB6 : Hid (Below B1 W3 W6) := Lib.hid (HB5.out.trans (hb6.mono HS5.out))
      have HS6 : Hid (B1 ≤ W6.heap.size) := Lib.hid (Nat.le_trans HS5.out hb6.size)
      have HWB : Hid (w.heap.size ≤ B1) := Lib.hid (by rw [← HB1.out]; exact HBW.out.size)
      clear C hA hb6 HB5 HBW5 HS5
      obtain ⟨sa, hpa, hsl, hsh, _, _⟩ := put_free (M := DiskM.new 7) (f0 := 1) (r := ⟨e3, s3, l3⟩) (by decide) rfl rfl HG3.out (by decide)
      have C := HP3.out B1 W6 _ _ F6 HA6.out HWB.out HS6.out (HZ3.out.below HB6.out (Nat.le_of_eq HB1.out)) (by have := HL3.out; have := HN3.out; omega) (by decide)
      rw [show ((1 : Nat) : Int) = 1 from rfl] at hpa
      rw [hpa] at C
      have HSL := Lib.hid hsl
      have HSH := Lib.hid hsh
      have r3 := HR3.out.below HB6.out (by rw [← HB1.out]; exact HR3.out.lt)
      clear hpa hsl hsh
      go_wp2_with (first | (refine wpList_guarded (by rfl) (fun K hK => ?_); refine wp_load_row 36 _ rfl g3 rfl 36 X3 (0, 0) _ r3 Try.underlying36 rfl HX3.out.2.2.2 (hK _ _ ?_)))
      refine C.mono ?_
      rintro e W7 ⟨rfl, F7, hA7, hC7, _⟩
      have HA7 := Lib.hid hA7
      have HB7 : Hid (Below B1 W3 W7) := Lib.hid (HB6.out.trans (acts_below (D.lt HA6.out) hC7 HS6.out))
      have HS7 : Hid (B1 ≤ W7.heap.size) := Lib.hid (by rw [← HB1.out]; exact HB7.out.size)
      clear C hA7 hC7 HA6 HB6 HS6 r3
      have k50 : W7.cell? ⟨g5, 0, none⟩ = some (.int .u8 (bd (q.getD 0 0#8))) := (HR5.out.below HB7.out (by rw [← HB1.out]; exact HR5.out.lt)).get (get_bs q 0 (by rw [HQ2.out]; decide))
      obtain ⟨y, hy⟩ : ∃ y, q.getD 0 0#8 = y := ⟨_, rfl⟩
      rw [hy] at k50
      obtain ⟨K, hK, hK10⟩ := mod10 (bd y) (bd_lo y)
      have hcv : IntKind.i64.wrap (bd y) = bd y := i64_id _ (bd_lo y) (by have := bd_hi y; omega)
      have C := D.fuse B1 W7 _ _ F7 (K : Int) HA7.out (by omega)
      clear hy
      go_wp2_with fail
      refine C.mono ?_
      rintro e W8 ⟨rfl, F8, hA8, hC8, _⟩
      have hA8 : D.A B1 W8 (.pointer (some ⟨g, 0, none⟩)) ⟨sa, [], (K : Int), false⟩ F8 := hA8
      have HA8 := Lib.hid hA8
      have HB8 : Hid (Below B1 W3 W8) := Lib.hid (HB7.out.trans (acts_below (D.lt HA7.out) hC8 HS7.out))
      have HS8 : Hid (B1 ≤ W8.heap.size) := Lib.hid (by rw [← HB1.out]; exact HB8.out.size)
      have HT := Lib.hid (fun keep => torn (M := ⟨sa, [], (K : Int), false⟩) (f0 := 1) (was := ⟨e3, s3, l3⟩) (now := ⟨e4, s4, l4⟩) keep (by show 1 + 6 ≤ sa.length; rw [HSL.out]; decide) rfl rfl HG3.out HG4.out HSH.out (by show (0 : Int) ≤ (K : Int); omega))
      clear C hA8 hC8 HA7 HB7 HS7 k50 hcv hK
      have C := HP4.out B1 W8 _ _ F8 HA8.out HWB.out HS8.out (HZ4.out.below HB8.out (Nat.le_of_eq HB1.out)) (by have := HL4.out; have := HN4.out; omega) (by show 0 + 10 ≤ few; decide)
      rw [show ((1 : Nat) : Int) = 1 from rfl] at HT
      obtain ⟨res, hres⟩ : ∃ res, walPut ⟨sa, [], (K : Int), false⟩ 1 ⟨e4, s4, l4⟩ = res := ⟨_, rfl⟩
      have hml : res.2.l.length ≤ 5 := by
        have h1 := put_run ⟨sa, [], (K : Int), false⟩ 1 ⟨e4, s4, l4⟩ (by show 1 + 6 ≤ sa.length; rw [HSL.out]; decide) HG4.out rfl rfl
        rw [show ((1 : Nat) : Int) = 1 from rfl, hres] at h1
        rw [h1]
        split
        · simp
        · split
          · simp
          · split
            · simp
            · simp only [List.length_take, length_imgsL, List.length_map]
              have := HL4.out
              omega
      rw [hres] at C HT
      obtain ⟨f, M9⟩ := res
      have HML := Lib.hid hml
      have HT1 : Hid (f = if (n4 : Int) + 3 ≤ (K : Int) then 0 else 20) := Lib.hid (by have := (HT.out []).1; rw [← HN4.out]; exact this)
      have HT2 : Hid (∀ keep, (walGet (M9.upped keep) 1).2 = 0 ∧ ((walGet (M9.upped keep) 1).1 = ⟨e4, s4, l4⟩ ∨ (f = 20 ∧ (walGet (M9.upped keep) 1).1.e = e3 ∧ (walGet (M9.upped keep) 1).1.s = s3 ∧ (walGet (M9.upped keep) 1).1.ats = l3.map (·.1)))) := Lib.hid (fun keep => by
        obtain ⟨_, h2, h3⟩ := HT.out keep
        refine ⟨h2, h3.imp id fun h => ⟨?_, h.2⟩⟩
        rw [HT1.out, if_neg (by rw [← HN4.out]; exact h.1)])
      have r4 := HR4.out.below HB8.out (by rw [← HB1.out]; exact HR4.out.lt)
      clear hres HT hml
      go_wp2_with (refine wpList_load_row rfl 36 _ rfl g4 rfl 36 X4 (0, 0) _ r4 Try.underlying36 rfl HX4.out.2.2.2 ?_)
      refine C.mono ?_
      rintro e W9 ⟨rfl, F9, hA9, hC9, _⟩
      have hA9 : D.A B1 W9 (.pointer (some ⟨g, 0, none⟩)) M9 F9 := hA9
      have HA9 := Lib.hid hA9
      have HB9 : Hid (Below B1 W3 W9) := Lib.hid (HB8.out.trans (acts_below (D.lt HA8.out) hC9 HS8.out))
      have HS9 : Hid (B1 ≤ W9.heap.size) := Lib.hid (by rw [← HB1.out]; exact HB9.out.size)
      have k42 := (HR4.out.below HB9.out (by rw [← HB1.out]; exact HR4.out.lt)).get HX4.out.2.2.1
      have e9 : IntKind.i64.wrap ((n4 : Int) + 3) = (n4 : Int) + 3 := i64_id _ (by omega) (by have := HL4.out; have := HN4.out; omega)
      clear C hA9 hC9 HA8 HB8 HS8 r4
      go_upto_region 9 with fail
      go_cut [65] (fun r wr => r = .bool false ∧ wr = W9)
      case first =>
        by_cases hc : (n4 : Int) + 3 ≤ (K : Int)
        · have hf : f = 0 := by rw [HT1.out, if_pos hc]
          subst hf
          have hd : decide ((n4 : Int) + 3 ≤ (K : Int)) = true := decide_eq_true hc
          go_wp2_with fail
          go_meet
          exact ⟨rfl, rfl⟩
        · have hf : f = 20 := by rw [HT1.out, if_neg hc]
          subst hf
          have hd : decide ((n4 : Int) + 3 ≤ (K : Int)) = false := decide_eq_false hc
          go_wp2_with fail
          go_meet
          exact ⟨rfl, rfl⟩
      case rest =>
        obtain ⟨rfl, hwc⟩ := hcut
        have hwc := hwc.symm
        subst hwc
        clear k42 e9
        have k51 : W9.cell? ⟨g5, 1, none⟩ = some (.int .u8 (bd (q.getD 1 0#8))) := (HR5.out.below HB9.out (by rw [← HB1.out]; exact HR5.out.lt)).get (get_bs q 1 (by rw [HQ2.out]; decide))
        obtain ⟨y1, hy1⟩ : ∃ y, q.getD 1 0#8 = y := ⟨_, rfl⟩
        rw [hy1] at k51
        have HK51 := Lib.hid k51
        clear hy1 k51
        go_wp2_with fail
        go_loopw [11, 12] (fun kv i wr => ∃ (k : Nat) (keep : List (BitVec 8)), k ≤ 8 ∧ i = .int .i64 k ∧ keep.length = k ∧ wr.ownsRow W9.heap.size 5 1 kv k (bytesV keep) ∧ Below W9.heap.size W9 wr) (fun _ i _ => 8 - (intOf i).toNat)
        case atStart => exact ⟨0, [], by omega, rfl, rfl, World.ownsRow_nil _ _ _ _, Below.refl _ _⟩
        case round =>
          obtain ⟨k, keep, hk, rfl, hkl, hO, hB⟩ := hrel
          have HO := Lib.hid hO
          have HB := Lib.hid hB
          have HKL := Lib.hid hkl
          clear hO hB hkl
          by_cases hlt : k < 8
          · have hq : decide ((k : Int) < 8) = true := decide_eq_true (by omega)
            have k51 : wr.cell? ⟨g5, 1, none⟩ = some (.int .u8 (bd y1)) := (HB.out.cell (p := ⟨g5, 1, none⟩) (by have := (HR5.out.below HB9.out (by rw [← HB1.out]; exact HR5.out.lt)).lt; exact this)).trans HK51.out
            obtain ⟨z, hz⟩ : ∃ z, BitVec.ofInt 8 (bd y1 / 2 ^ k) &&& 1#8 = z := ⟨_, rfl⟩
            have hband : bits BinOp.and IntKind.u8 (bd y1 / 2 ^ k) 1 = bd z := by rw [and_any, hz]
            have HR4b : Hid (Slice (wr.alloc (.cells #[.int .u8 (bd z)] 5)) (.slice (some ⟨wr.heap.size, 0, none⟩) 1 1) [z]) := Lib.hid (row_slice (Row.fresh wr 5 (bs [z])) (c := 1) (Nat.le_refl _))
            have HO4 := Lib.hid (HO.out.alloc (.cells #[.int .u8 (bd z)] 5))
            have HB4 := Lib.hid (HB.out.trans ((Same.alloc wr (.cells #[.int .u8 (bd z)] 5)).mono HB.out.size))
            clear hz
            go_wp2_with (at_builtin; refine wpList_append_slice rfl (.tmp 70) (.tmp 77) rfl W9.heap.size _ k _ rfl HO4.out (some ⟨wr.heap.size, 0, none⟩) 1 1 _ rfl HR4b.out (fun h => by cases h) (by omega) HB4.out.size ?_; intro v6 w6 own6 hb6; rw [← bytesV_app2] at own6; have HO6 := Lib.hid own6; have HB6 := Lib.hid (HB4.out.trans hb6); clear own6 hb6)
            exact ⟨⟨k + 1, keep ++ [z], by omega, by go_num, by rw [List.length_append, HKL.out]; rfl, HO6.out, HB6.out⟩, by simp [intOf] <;> omega⟩
          · obtain rfl : k = 8 := by omega
            have hq : decide (((8 : Nat) : Int) < 8) = false := decide_eq_false (by omega)
            have hslice := own_slice (by rw [HKL.out]; exact HO.out)
            have HSL2 := Lib.hid hslice
            have HAr := Lib.hid (D.still HA9.out HB.out)
            have C := D.up B1 wr _ M9 F9 _ keep HAr.out (by have := HML.out; unfold few; omega) hslice (by have := HKL.out; unfold few; omega) (fun j hj hf => by have h1 := (HO.out.lt j hj).1; have h2 := (D.lt HA9.out j hf).2; omega)
            clear hslice
            go_wp2_with fail
            refine C.mono ?_
            rintro e W10 ⟨rfl, F10, hA10, hC10, _⟩
            have HB10 : Hid (Below B1 W3 W10) := Lib.hid ((HB9.out.trans (HB.out.mono HS9.out)).trans (acts_below (D.lt HAr.out) hC10 (Nat.le_trans HS9.out HB.out.size)))
            have C := O.get B1 W10 _ _ F10 1 hA10 (by decide) (by show 0 ≤ few; decide)
            obtain ⟨h2, h3⟩ := HT2.out keep
            obtain ⟨⟨R, gg⟩, hRG⟩ : ∃ RG, walGet (M9.upped keep) 1 = RG := ⟨_, rfl⟩
            rw [hRG] at C h2 h3
            simp only at h2 h3
            subst h2
            have HALT := Lib.hid h3
            clear h3 hRG hA10 hC10 HAr HSL2 HA9 HO HK51 HML
            obtain ⟨nR, hnR⟩ : ∃ n, R.l.length = n := ⟨_, rfl⟩
            have HNR := Lib.hid hnR
            unfold ToldP at C
            simp only [hnR] at C
            go_wp2_with fail
            refine C.mono ?_
            rintro e W11 ⟨A5, c5, rfl, hp5, hb11, _⟩
            obtain ⟨X5, hX5⟩ : ∃ X, recW R (.slice A5 nR c5) = X := ⟨_, rfl⟩
            have HX5 : Hid (X5[0]? = some (.int .u32 (wd R.e)) ∧ X5[1]? = some (.int .u32 (wd R.s)) ∧ X5[2]? = some (.slice A5 nR c5) ∧ (Try.prog.info? 36).map (·.size) = some X5.size ∧ X5.all (·.oneCell') = true ∧ X5.size = 3) := Lib.hid (by rw [← hX5]; exact ⟨rfl, rfl, rfl, size_recW, one_recW _ _, rfl⟩)
            rw [hX5]
            have hz := zeros_recW
            have HSB : Hid (B1 ≤ W10.heap.size) := Lib.hid (by rw [← HB1.out]; exact HB10.out.size)
            have HB12 : Hid (Below B1 W3 (W11.alloc (.cells X5 36))) := Lib.hid ((HB10.out.trans (hb11.mono HSB.out)).trans ((Same.alloc W11 _).mono (Nat.le_trans HSB.out hb11.size)))
            have HP5 := Lib.hid (hp5.below (Same.alloc W11 (.cells X5 36)) (Nat.le_refl _))
            have HR13 := Lib.hid (Row.fresh W11 36 X5)
            clear hX5 hp5 hb11 hnR
            go_upto_region 18 with (refine wpList_store_row rfl 36 _ _ rfl W11.heap.size X5 rfl rfl 36 _ (Row.fresh _ _ _) HX5.out.2.2.2.1 (by rw [HX5.out.2.2.2.2.2]; rfl) HX5.out.2.2.2.2.1 ?_; rw [World.setRow_alloc_new])
            clear hz
            generalize W11.heap.size = g13 at *
            generalize W11.alloc (.cells X5 36) = W12 at *
            have x0 := HR13.out.get HX5.out.1
            have x1 := HR13.out.get HX5.out.2.1
            have x2 := HR13.out.get HX5.out.2.2.1
            have r4' := HR4.out.below HB12.out (by rw [← HB1.out]; exact HR4.out.lt)
            have y0 := r4'.get HX4.out.1
            have y1' := r4'.get HX4.out.2.1
            have y2 := r4'.get HX4.out.2.2.1
            clear r4'
            have HKP := Lib.hid (keepputs_any R.l l4 (.slice A5 nR c5) (.slice A4 n4 c4) W12 HP5.out (HZ4.out.below HB12.out (Nat.le_of_eq HB1.out)) (by have := HNR.out; have h5 := HL3.out.2; have h6 := HL4.out.2; rcases HALT.out with h | ⟨_, _, _, h⟩; rw [h]; show l4.length ≤ 1000000; omega; have h7 := congrArg List.length h; unfold Rec.ats at h7; rw [List.length_map, List.length_map] at h7; omega))
            go_upto_region 20 with fail
            go_cut [107] (fun r wr => r = .bool (decide (R = ⟨e4, s4, l4⟩)) ∧ Below W12.heap.size W12 wr)
            case first =>
              by_cases h1 : R.e = e4
              · have q1 : (wd R.e == wd e4) = true := by rw [eq_wd, decide_eq_true h1]
                by_cases h2 : R.s = s4
                · have q2 : (wd R.s == wd s4) = true := by rw [eq_wd, decide_eq_true h2]
                  have HD : Hid (decide (R = ⟨e4, s4, l4⟩) = decide (R.l = l4)) := Lib.hid (by rw [rec_eq, decide_eq_true h1, decide_eq_true h2]; rfl)
                  clear h1 h2
                  obtain ⟨dl, hdl⟩ : ∃ d, decide (R.l = l4) = d := ⟨_, rfl⟩
                  rw [hdl] at HKP HD
                  clear hdl
                  go_wp2_with fail
                  refine HKP.out.mono ?_
                  rintro e W13 ⟨rfl, hb13⟩
                  have HB13 := Lib.hid hb13
                  clear hb13
                  cases dl <;> (go_wp2_with fail; go_meet; exact ⟨by rw [HD.out], HB13.out⟩)
                · have q2 : (wd R.s == wd s4) = false := by rw [eq_wd, decide_eq_false h2]
                  have HD : Hid (decide (R = ⟨e4, s4, l4⟩) = false) := Lib.hid (by rw [rec_eq, decide_eq_false h2, Bool.false_and, Bool.and_false])
                  clear h1 h2
                  go_wp2_with fail
                  go_meet
                  exact ⟨by rw [HD.out], Below.refl _ _⟩
              · have q1 : (wd R.e == wd e4) = false := by rw [eq_wd, decide_eq_false h1]
                have HD : Hid (decide (R = ⟨e4, s4, l4⟩) = false) := Lib.hid (by rw [rec_eq, decide_eq_false h1, Bool.false_and])
                clear h1
                go_wp2_with fail
                go_meet
                exact ⟨by rw [HD.out], Below.refl _ _⟩
            case rest =>
              obtain ⟨rfl, hBc⟩ := hcut
              have HBC : Hid (Below B1 W3 wc) := Lib.hid (HB12.out.trans (hBc.mono (by rw [← HB1.out]; exact HB12.out.size)))
              have HBWC : Hid (Below w.heap.size w wc) := Lib.hid (HBW.out.trans (HBC.out.mono HWB.out))
              have HP5c := Lib.hid (HP5.out.below hBc (Nat.le_refl _))
              have HR13c := Lib.hid (HR13.out.call hBc)
              clear hBc x0 x1 x2 y0 y1' y2 HKP
              by_cases hR : R = ⟨e4, s4, l4⟩
              · have hd : decide (R = ⟨e4, s4, l4⟩) = true := decide_eq_true hR
                rw [hd]
                clear hR hd
                go_wp2_with fail
                refine (HW.out _).mono ?_
                rintro e Wz ⟨rfl, hbz⟩
                have hbb := HBWC.out.trans (hbz.mono HBWC.out.size)
                clear hbz
                go_wp2_with fail
                go_ret
                exact ⟨rfl, hbb⟩
              have hd : decide (R = ⟨e4, s4, l4⟩) = false := decide_eq_false hR
              rw [hd]
              obtain ⟨hf, he, hs, hats⟩ := HALT.out.resolve_left hR
              have hnn : nR = n3 := by rw [← HNR.out, ← HN3.out]; have h7 := congrArg List.length hats; unfold Rec.ats at h7; rw [List.length_map, List.length_map] at h7; exact h7
              subst hf hnn
              have HATS := Lib.hid hats
              have q1 : wd R.e = wd e3 := by rw [he]
              have q2 : wd R.s = wd s3 := by rw [hs]
              have q3 : (wd R.e != wd e3) = false := by rw [q1]; simp
              have q4 : (wd R.s != wd s3) = false := by rw [q2]; simp
              have x0 := HR13c.out.get HX5.out.1
              have x1 := HR13c.out.get HX5.out.2.1
              have x2 := HR13c.out.get HX5.out.2.2.1
              have r3' := HR3.out.below HBC.out (by rw [← HB1.out]; exact HR3.out.lt)
              have y0 := r3'.get HX3.out.1
              have y1' := r3'.get HX3.out.2.1
              have y2 := r3'.get HX3.out.2.2.1
              have HY2 := Lib.hid y2
              have HG3L := Lib.hid r3'.lt
              clear r3' hR hd he hs hats HALT
              go_upto_region 24 with fail
              clear q1 q2 q3 q4 x0 x1 x2 y0 y1' y2
              have HZ3c := Lib.hid (HZ3.out.below HBC.out (Nat.le_of_eq HB1.out))
              have hnn5 : nR ≤ 5 := by have := HN3.out; have := HL3.out.2; omega
              go_wp2_with fail
              go_loopw [15] (fun i wr => ∃ k : Nat, k ≤ nR ∧ i = .int .i64 k ∧ Below wc.heap.size wc wr) (fun i _ => nR - (intOf i).toNat)
              case atStart => exact ⟨0, by omega, rfl, Below.refl _ _⟩
              case round =>
                obtain ⟨k, hk, rfl, hB⟩ := hrel
                have HBk := Lib.hid hB
                have y2 : wr.cell? ⟨g3, 2, none⟩ = some (.slice A3 nR c3) := (HBk.out.cell (p := ⟨g3, 2, none⟩) HG3L.out).trans HY2.out
                clear hB
                by_cases hlt : k < nR
                · obtain ⟨⟨d5, q5⟩, hx5⟩ : ∃ x, R.l[k]? = some x := ⟨_, List.getElem?_eq_getElem (by rw [HNR.out]; exact hlt)⟩
                  obtain ⟨⟨d3, q3⟩, hx3⟩ : ∃ x, l3[k]? = some x := ⟨_, List.getElem?_eq_getElem (by rw [HN3.out]; exact hlt)⟩
                  have hdd : d5 = d3 := by
                    have h7 := HATS.out
                    unfold Rec.ats at h7
                    have h8 : (R.l.map (·.1))[k]? = (l3.map (·.1))[k]? := by rw [h7]
                    rw [List.getElem?_map, List.getElem?_map, hx5, hx3] at h8
                    exact Option.some.inj h8
                  subst hdd
                  obtain ⟨A', c', e1, _, _, h4⟩ := HP5c.out
                  obtain ⟨b5, o5, e2, w5, h6⟩ := h4 (by intro e; rw [e] at hx5; simp at hx5)
                  injection e1 with e1 e9 e7
                  clear e9
                  subst e1 e7
                  subst e2
                  obtain ⟨A', c', e1, _, _, h4'⟩ := HZ3c.out
                  obtain ⟨b3, o3, e2, w3, h6'⟩ := h4' (by intro e; rw [e] at hx3; simp at hx3)
                  injection e1 with e1 e9 e7
                  clear e9
                  subst e1 e7
                  subst e2
                  obtain ⟨O5, hO5⟩ : ∃ O, o5 + k * 33 = O := ⟨_, rfl⟩
                  obtain ⟨O3, hO3⟩ : ∃ O, o3 + k * 33 = O := ⟨_, rfl⟩
                  have c5 : wc.cell? ⟨b5, O5, none⟩ = some (.int .i64 d5) := by have := h6 k _ hx5 0 _ rfl; rw [← hO5]; simpa using this
                  have c3 : wc.cell? ⟨b3, O3, none⟩ = some (.int .i64 d5) := by have := h6' k _ hx3 0 _ rfl; rw [← hO3]; simpa using this
                  have HC5 := Lib.hid c5
                  have HC3 := Lib.hid c3
                  have HW5 := Lib.hid w5
                  have HW3 := Lib.hid w3
                  have HO5 := Lib.hid hO5
                  have HO3 := Lib.hid hO3
                  have hk0 : (0 : Int) ≤ (k : Int) := by omega
                  have hk1 : (k : Int) < (nR : Int) := by omega
                  have HX52 := Lib.hid (HR13c.out.get HX5.out.2.2.1)
                  have HG13L := Lib.hid HR13c.out.lt
                  clear c5 c3 w5 w3 hO5 hO3 h6 h6' h4 h4' hx5 hx3
                  go_upto_region 27 with fail
                  have hF0 : Wl [fun W => Below wc.heap.size wc W] 0 (World.drew _) := HBk.out.drew
                  refine wp_region_phs [is (.pointer (some ⟨g13, 2, none⟩)), is (.slice (some ⟨b5, o5, none⟩) nR c5), is (.int .i64 (k : Int)), is (.pointer (some ⟨b5, O5, none⟩)), is (.pointer (some ⟨b5, O5, none⟩)), is (.int .i64 d5), is (.pointer (some ⟨g3, 2, none⟩)), is (.slice (some ⟨b3, o3, none⟩) nR c3), is (.int .i64 (k : Int)), is (.pointer (some ⟨b3, O3, none⟩)), is (.pointer (some ⟨b3, O3, none⟩)), is (.int .i64 d5), is (.bool false)] [true, true, true, true, true, true, true, true, true, true, true, true, true] [(fun W => Below wc.heap.size wc W)] [false, false, false, false, false, false, false, false, false, false, false, false, false] [some 0, some 0, some 0, some 0, some 0, some 0, some 0, some 0, some 0, some 0, some 0, some 0, some 0] [some 141, some 142, some 143, some 144, some 145, some 146, some 147, some 148, some 149, some 150, some 151, some 152, some 153] 13 0 (fun _ => true) rfl rfl (by kernel_rfl) (by kernel_rfl) (by kernel_rfl) (by kernel_rfl) ?_ ?_ ?_ ?_ ?_ ?_
                  · repeat first | exact wok_nil | refine wok_cons (by first | exact fun _ _ h k => h.trans (k.mono h.size)) ?_
                  · repeat first | exact vok_nil | refine vok_rig (by first | exact fun _ _ _ h => h) ?_ | refine vok_soft (by first | exact fun _ _ _ h _ => h) ?_
                  · exact hF0
                  · repeat first | exact all_end (by decide) | refine all_cons (by first | exact rfl | exact ⟨rfl, fun _ _ h => Or.inl h⟩ | exact ⟨rfl, fun _ _ h => Or.inr ⟨h, rfl⟩⟩) ?_
                  · refine allp_mild 0 rfl rfl rfl (fun a x_ W hout hin hP => ?_) ?_
                    · have e13 : a.tmps[13]? = some (.pointer (some ⟨g13, 0, none⟩)) := (hout 13 (by kernel_rfl)).trans rfl
                      clear hin hout
                      intro K Q hK
                      go_simp
                      exact hK _ _ ⟨Same.refl _, rfl⟩
                    refine allp_mild 0 rfl rfl rfl (fun a x_ W hout hin hP => ?_) ?_
                    · have e141 := hin.is 0 141 (by kernel_rfl) (by decide) (by kernel_rfl) (by kernel_rfl) _ rfl
                      have hc : W.cell? ⟨g13, 2, none⟩ = some (.slice (some ⟨b5, o5, none⟩) nR c5) := (hP.cell (p := ⟨g13, 2, none⟩) HG13L.out).trans HX52.out
                      clear hP
                      clear hin hout
                      intro K0 Q hK
                      go_simp
                      exact hK _ _ ⟨Same.refl _, rfl⟩
                    refine allp_mild 0 rfl rfl rfl (fun a x_ W hout hin hP => ?_) ?_
                    · have e15 : a.tmps[15]? = some (.int .i64 (k : Int)) := (hout 15 (by kernel_rfl)).trans rfl
                      exact does_move rfl e15 ⟨Same.refl _, rfl⟩
                    refine allp_mild 0 rfl rfl rfl (fun a x_ W hout hin hP => ?_) ?_
                    · have e142 := hin.is 1 142 (by kernel_rfl) (by decide) (by kernel_rfl) (by kernel_rfl) _ rfl
                      have e143 := hin.is 2 143 (by kernel_rfl) (by decide) (by kernel_rfl) (by kernel_rfl) _ rfl
                      have hO := HO5.out
                      clear hin hout
                      intro K0 Q hK
                      go_simp
                      exact hK _ _ ⟨Same.refl _, rfl⟩
                    refine allp_mild 0 rfl rfl rfl (fun a x_ W hout hin hP => ?_) ?_
                    · have e144 := hin.is 3 144 (by kernel_rfl) (by decide) (by kernel_rfl) (by kernel_rfl) _ rfl
                      clear hin hout
                      intro K Q hK
                      go_simp
                      exact hK _ _ ⟨Same.refl _, rfl⟩
                    refine allp_mild 0 rfl rfl rfl (fun a x_ W hout hin hP => ?_) ?_
                    · have e145 := hin.is 4 145 (by kernel_rfl) (by decide) (by kernel_rfl) (by kernel_rfl) _ rfl
                      have hc : W.cell? ⟨b5, O5, none⟩ = some (.int .i64 d5) := (hP.cell (p := ⟨b5, O5, none⟩) HW5.out).trans HC5.out
                      clear hP
                      clear hin hout
                      intro K0 Q hK
                      go_simp
                      exact hK _ _ ⟨Same.refl _, rfl⟩
                    refine allp_mild 0 rfl rfl rfl (fun a x_ W hout hin hP => ?_) ?_
                    · have e3 : a.tmps[3]? = some (.pointer (some ⟨g3, 0, none⟩)) := (hout 3 (by kernel_rfl)).trans rfl
                      clear hin hout
                      intro K Q hK
                      go_simp
                      exact hK _ _ ⟨Same.refl _, rfl⟩
                    refine allp_mild 0 rfl rfl rfl (fun a x_ W hout hin hP => ?_) ?_
                    · have e147 := hin.is 6 147 (by kernel_rfl) (by decide) (by kernel_rfl) (by kernel_rfl) _ rfl
                      have hc : W.cell? ⟨g3, 2, none⟩ = some (.slice (some ⟨b3, o3, none⟩) nR c3) := (hP.cell (p := ⟨g3, 2, none⟩) HG3L.out).trans HY2.out
                      clear hP
                      clear hin hout
                      intro K0 Q hK
                      go_simp
                      exact hK _ _ ⟨Same.refl _, rfl⟩
                    refine allp_mild 0 rfl rfl rfl (fun a x_ W hout hin hP => ?_) ?_
                    · have e15 : a.tmps[15]? = some (.int .i64 (k : Int)) := (hout 15 (by kernel_rfl)).trans rfl
                      exact does_move rfl e15 ⟨Same.refl _, rfl⟩
                    refine allp_mild 0 rfl rfl rfl (fun a x_ W hout hin hP => ?_) ?_
                    · have e148 := hin.is 7 148 (by kernel_rfl) (by decide) (by kernel_rfl) (by kernel_rfl) _ rfl
                      have e149 := hin.is 8 149 (by kernel_rfl) (by decide) (by kernel_rfl) (by kernel_rfl) _ rfl
                      have hO := HO3.out
                      clear hin hout
                      intro K0 Q hK
                      go_simp
                      exact hK _ _ ⟨Same.refl _, rfl⟩
                    refine allp_mild 0 rfl rfl rfl (fun a x_ W hout hin hP => ?_) ?_
                    · have e150 := hin.is 9 150 (by kernel_rfl) (by decide) (by kernel_rfl) (by kernel_rfl) _ rfl
                      clear hin hout
                      intro K Q hK
                      go_simp
                      exact hK _ _ ⟨Same.refl _, rfl⟩
                    refine allp_mild 0 rfl rfl rfl (fun a x_ W hout hin hP => ?_) ?_
                    · have e151 := hin.is 10 151 (by kernel_rfl) (by decide) (by kernel_rfl) (by kernel_rfl) _ rfl
                      have hc : W.cell? ⟨b3, O3, none⟩ = some (.int .i64 d5) := (hP.cell (p := ⟨b3, O3, none⟩) HW3.out).trans HC3.out
                      clear hP
                      clear hin hout
                      intro K0 Q hK
                      go_simp
                      exact hK _ _ ⟨Same.refl _, rfl⟩
                    refine allp_mild 0 rfl rfl rfl (fun a x_ W hout hin hP => ?_) ?_
                    · have e146 := hin.is 5 146 (by kernel_rfl) (by decide) (by kernel_rfl) (by kernel_rfl) _ rfl
                      have e152 := hin.is 11 152 (by kernel_rfl) (by decide) (by kernel_rfl) (by kernel_rfl) _ rfl
                      clear hin hout
                      intro K0 Q hK
                      go_simp
                      exact hK _ _ ⟨Same.refl _, rfl⟩
                    exact all_end (by decide)
                  · intro x_ V hP hV
                    have HB9k := Lib.hid hP
                    have h12 : x_ 12 = .bool false := hV 12 (by decide) (.inl (by kernel_rfl))
                    clear hP hV
                    simp only [putL, Act.put, List.setIfInBounds_toArray, List.set_cons_succ, List.set_cons_zero, h12]
                    refine wpAnyH_done (by kernel_rfl) ?_ _
                    clear h12
                    go_wp2_with fail
                    exact ⟨⟨k + 1, by omega, by go_num, HB9k.out⟩, by simp [intOf] <;> omega⟩
                · obtain rfl : k = nR := by omega
                  have hbb0 := HBWC.out.trans (HBk.out.mono HBWC.out.size)
                  have HBB0 := Lib.hid hbb0
                  clear hbb0
                  go_wp2_with fail
                  refine (HW.out _).mono ?_
                  rintro e Wz ⟨rfl, hbz⟩
                  have hbb := HBB0.out.trans (hbz.mono HBB0.out.size)
                  clear hbz
                  go_wp2_with fail
                  go_ret
                  exact ⟨rfl, hbb⟩
end Go.Proofs.Ytdobempppobopaa

/- WalTorn: for every two records and two bytes the call returns true and changes nothing that it was handed. Conditions: those of the row. -/
set_option maxRecDepth 4000
namespace Go.Proofs.Ytdobempppobopaa.walTorn
open Go Go.ChangeShapes Go.WideShapes Go.ChangeAt Go.RowKit

theorem contract (H : Type) (enc : TypeId × Value → H) (W : World) (base : Nat) (args : Array Value) (ds gs : List (DataW H)) (before : List MemPlace)
    (hval : ∀ (j : Nat) t v, Try.f4.params[j]? = some t → args[j]? = some v → Value.okWide Try.prog W .any base t v)
    (hW : DataW.Whole enc Try.prog Try.f4.params.toList Rows.walTornSpec.vars false W args.toList ds gs before) :
    Calls Try.prog 4 args W fun e W' => ∃ v, e = .returned v ∧ Rows.walTornSpec.post enc Try.prog Try.f4 false true false false W args v W' := by
  have hW' := hW
  obtain ⟨p, q, hA0, hV, rfl, _, _⟩ := hW
  have hA : DataW.TrodAll enc Try.prog W 0 (fun _ => true) true Try.f4.params.toList args.toList ds p := hA0
  rw [Try.params4] at hA hval
  obtain ⟨v0, vs0, d0, ds0, p0, q0, hargs, rfl, rfl, h0, r0⟩ := trodAll_cons hA
  obtain ⟨v1, vs1, d1, ds1, p1, q1, rfl, rfl, rfl, h1, r1⟩ := trodAll_cons r0
  obtain ⟨v2, vs2, d2, ds2, p2, q2, rfl, rfl, rfl, h2, r2⟩ := trodAll_cons r1
  obtain ⟨rfl, rfl, rfl⟩ := trodAll_nil r2
  obtain rfl : args = #[v0, v1, v2] := by cases args; simp_all
  obtain ⟨rfl, rfl⟩ := trodVars_none hV
  have hlt0 : ∀ x ∈ p0, x.block < W.heap.size := fun x hx => hW'.lt x (by simp [hx])
  have hlt1 : ∀ x ∈ p1, x.block < W.heap.size := fun x hx => hW'.lt x (by simp [hx])
  have hlt2 : ∀ x ∈ p2, x.block < W.heap.size := fun x hx => hW'.lt x (by simp [hx])
  obtain ⟨e0, s0, A0, c0, l0, rfl, hS0, hm0⟩ := open_rec (hval 0 36 v0 rfl rfl) h0 hlt0
  obtain ⟨e1, s1, A1, c1, l1, rfl, hS1, hm1⟩ := open_rec (hval 1 36 v1 rfl rfl) h1 hlt1
  obtain ⟨q2, hq2, rfl⟩ := open_argBytes Try.underlying67 Try.underlying5 (by kernel_rfl) (by kernel_rfl) (hval 2 67 v2 rfl rfl) h2 hlt2
  refine (wtorn_walk diskOps walOps e0 s0 A0 c0 l0 e1 s1 A1 c1 l1 q2 W hS0 hm0 hS1 hm1 hq2).mono fun e W' ⟨he, hb⟩ => ?_
  subst he
  exact ⟨_, rfl, [d0, d1, d2], [], _, [], _, [], hW', trodAll_cons_mk (shut_bool Try.underlying4 _) trodAll_mk0, trodAll_cons_mk (Below.trod laidOutT (by kernel_rfl) (of_decide_eq_true (by kernel_rfl)) h0 hb hlt0) (trodAll_cons_mk (Below.trod laidOutT (by kernel_rfl) (of_decide_eq_true (by kernel_rfl)) h1 hb hlt1) (trodAll_cons_mk (Below.trod laidOutT (by kernel_rfl) (of_decide_eq_true (by kernel_rfl)) h2 hb hlt2) trodAll_mk0)), rfl, hb.frame _, fun h => by cases h⟩

set_option maxRecDepth 100000 in
theorem lifted (os : Os) (started : os.Started) (H : Type) (enc : TypeId × Value → H) :
    ReturnsInHanded {} Try.checked os 4 .any (Rows.walTornSpec.pre6 enc Try.prog Try.f4 Rows.walTornRow.domain false) (Rows.walTornSpec.post enc Try.prog Try.f4 false true false false) := by
  refine returnsInHanded_of_change (C := Try.checked) ownK started (by kernel_rfl) Try.func4
    (ChangeSpec.witness6 (enc := enc) (C := Try.checked) false ⟨#[], #[.agg #[.int .u32 0, .int .u32 0, .slice none 0 0], .agg #[.int .u32 0, .int .u32 0, .slice none 0 0], .agg #[.int .u8 0, .int .u8 0]], []⟩ 8 (by kernel_rfl) (by kernel_rfl) (by kernel_rfl) (by kernel_rfl)) ?_
  intro W base args ds gs before hval hW _ _
  exact contract H enc W base args ds gs before hval hW

theorem said : Rows.WalTornSaid :=
  OpenClaim.holds_of_wide 4 Try.f4 rfl rfl rfl rfl rfl rfl rfl ⟨rfl, rfl, rfl, rfl, rfl⟩ rfl rfl rfl rfl rfl (by kernel_rfl) Try.func4 (by kernel_rfl)
    (of_decide_eq_true (by kernel_rfl)) (by unfold Func.isWrapper; first | (rw [if_pos (by decide +kernel)]; kernel_rfl) | (rw [if_neg (by decide +kernel)]; exact ⟨rfl, rfl⟩))
    (fun os started H enc _ => lifted os started H enc)
end Go.Proofs.Ytdobempppobopaa.walTorn
