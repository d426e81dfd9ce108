/- The statement ReplyPlaces: its walk. -/
import Derived.Test.YtamofhjnpahamaaRpTurns
set_option maxRecDepth 4000
namespace Go.Proofs.Ytamofhjnpahamaa
open Go Go.RowKit
theorem wordZ_wd (x : BitVec 32) : wordZ (wd x) = x := by
  apply BitVec.eq_of_toNat_eq
  unfold wordZ wd
  rw [BitVec.toNat_ofInt]
  have := x.isLt
  omega
theorem four_at (v : BitVec 32) (r : List (BitVec 8)) {k : Nat} (h : k < 4) : (four v ++ r).getD k 0#8 = (v >>> (8 * k)).setWidth 8 := by
  rw [four_le, List.getD_eq_getElem?_getD, List.getElem?_append_left (by rw [len_r4]; exact h)]
  unfold le
  rw [List.getElem?_map, List.getElem?_range h]; rfl
set_option maxRecDepth 20000 in
set_option maxHeartbeats 3200000 in
theorem rpplaces_walk (i e : Int) (A : Option Addr) (n c : Nat) (d : List (BitVec 8)) (w : World) (hs : Slice w (.slice A n c) d) (hd : d.length = n) (hA : A = none → c = 0) (hn : n ≤ maxLen)
    (i1 : -9223372036854775808 ≤ i) (i2 : i < 9223372036854775808) (e1 : -9223372036854775808 ≤ e) (e2 : e < 9223372036854775808) :
    Calls Try.prog 6 #[.agg (repCells i e (.slice A n c))] w fun e w' => e = .returned (.bool true) ∧ Below w.heap.size w w' := by
  have HRA : Hid (∀ W, Below w.heap.size w W → RepAt W [.int .i64 i, .int .i64 e, .slice A n c] (i, e, d)) := Lib.hid fun W hb => (rep_at hs hA hn i1 i2 e1 e2).below hb (Nat.le_refl _)
  have HF := Lib.hid (fun (W : World) (hb : Below w.heap.size w W) => fairrep_any _ 1 1 [(i, e, d)] _ (reps_one (HRA.out W hb)) (by decide))
  rw [fairR_one, hd] at HF
  have HD := Lib.hid hd
  have HA := Lib.hid hA
  have HSL := Lib.hid hs
  clear hs hA hn i1 i2 e1 e2 hd HRA
  have HS := St.nil w noF
  by_cases h6 : n ≤ 600
  case neg =>
    rw [decide_eq_false h6] at HF
    go_enter Try.func6, Try.ntmps6
    go_upto_region 1 with (first | ((with_reducible refine wpList_plain ?_ ?_); exact rfl; intro KK hKK; refine wp_st_box HS 31 (.tmp 0) rfl _ rfl (repCells i e (.slice A n c)) (rfl) (fun g1 W1 HSx => hKK _ _ ?_); clear hKK KK HS; have HS : St w noF [⟨g1, 31, repCells i e (.slice A n c)⟩] W1 := HSx; clear HSx))
    have HB1 := Lib.hid HS.below
    have C := HF.out W1 HS.below
    go_wp2_with (first | ((with_reducible refine wpList_plain ?_ ?_); exact rfl; intro KK hKK; refine wp_load_mid 31 (.tmp 1) rfl g1 0 rfl [.int .i64 i, .int .i64 e, .slice A n c] _ ((HS.row 0 rfl).slab 0 _ (slab_whole _)) Try.underlying31 rfl (by exact size_rep) (hKK _ _ ?_); clear hKK KK))
    refine C.mono ?_
    rintro x w2 ⟨rfl, hw⟩
    have hb2 : Below W1.heap.size W1 w2 := by rw [← hw]; exact (Below.refl _ _).alloc (Nat.le_refl _) _
    have HSx := HS.same hb2
    clear HS hb2 C HF HB1 hw
    have HS := HSx
    clear HSx
    go_wp2_with fail
    refine (rpwakes_any w2).mono ?_
    rintro x9 w99 ⟨rfl, hb9⟩
    go_wp2_with fail
    go_ret
    exact ⟨rfl, HS.below.trans (hb9.mono HS.below.size)⟩
  rw [decide_eq_true h6] at HF
  cases hok : mayR i e n with
  | false =>
    have HE := Lib.hid (fun w => repenc_bad i e A n c w hok)
    have HNO := Lib.hid (mayR_no hok)
    clear hok
    go_enter Try.func6, Try.ntmps6
    go_upto_region 1 with (first | ((with_reducible refine wpList_plain ?_ ?_); exact rfl; intro KK hKK; refine wp_st_box HS 31 (.tmp 0) rfl _ rfl (repCells i e (.slice A n c)) (rfl) (fun g1 W1 HSx => hKK _ _ ?_); clear hKK KK HS; have HS : St w noF [⟨g1, 31, repCells i e (.slice A n c)⟩] W1 := HSx; clear HSx))
    have HB1 := Lib.hid HS.below
    have C := HF.out W1 HS.below
    go_wp2_with (first | ((with_reducible refine wpList_plain ?_ ?_); exact rfl; intro KK hKK; refine wp_load_mid 31 (.tmp 1) rfl g1 0 rfl [.int .i64 i, .int .i64 e, .slice A n c] _ ((HS.row 0 rfl).slab 0 _ (slab_whole _)) Try.underlying31 rfl (by exact size_rep) (hKK _ _ ?_); clear hKK KK))
    refine C.mono ?_
    rintro x w2 ⟨rfl, hw⟩
    have hb2 : Below W1.heap.size W1 w2 := by rw [← hw]; exact (Below.refl _ _).alloc (Nat.le_refl _) _
    have HSx := HS.same hb2
    clear HS hb2 C HF HB1 hw
    have HS := HSx
    clear HSx
    go_upto_region 3 with fail
    go_wp2_with (first | ((with_reducible refine wpList_plain ?_ ?_); exact rfl; intro KK hKK; refine wp_st_load HS 0 0 31 (.tmp 1) rfl rfl rfl (repCells i e (.slice A n c)) (slab_whole _) _ Try.underlying31 rfl (by exact size_rep) (hKK _ _ ?_); clear hKK KK))
    refine (HE.out _).mono ?_
    rintro x w3 ⟨rfl, hb⟩
    have HSx := HS.same hb
    clear HS hb HE
    go_upto_region 4 with fail
    by_cases t0 : (0 : Int) ≤ i
    case neg =>
      have f0 : decide ((0 : Int) ≤ i) = false := decide_eq_false t0
      clear t0
      have c0 : w3.cell? ⟨g1, 0, none⟩ = some (.int .i64 i) := (HSx.row 0 rfl).get rfl
      have c1 : w3.cell? ⟨g1, 1, none⟩ = some (.int .i64 e) := (HSx.row 0 rfl).get rfl
      have c2 : w3.cell? ⟨g1, 2, none⟩ = some (.slice A n c) := (HSx.row 0 rfl).get rfl
      go_wp2_with fail
      refine (rpwakes_any w3).mono ?_
      rintro x9 w99 ⟨rfl, hb9⟩
      go_wp2_with fail
      go_ret
      exact ⟨rfl, HSx.below.trans (hb9.mono HSx.below.size)⟩
    have f0 : decide ((0 : Int) ≤ i) = true := decide_eq_true t0
    by_cases t1 : i < 2147483648
    case neg =>
      have f1 : decide (i < 2147483648) = false := decide_eq_false t1
      clear t0 t1
      have c0 : w3.cell? ⟨g1, 0, none⟩ = some (.int .i64 i) := (HSx.row 0 rfl).get rfl
      have c1 : w3.cell? ⟨g1, 1, none⟩ = some (.int .i64 e) := (HSx.row 0 rfl).get rfl
      have c2 : w3.cell? ⟨g1, 2, none⟩ = some (.slice A n c) := (HSx.row 0 rfl).get rfl
      go_wp2_with fail
      refine (rpwakes_any w3).mono ?_
      rintro x9 w99 ⟨rfl, hb9⟩
      go_wp2_with fail
      go_ret
      exact ⟨rfl, HSx.below.trans (hb9.mono HSx.below.size)⟩
    have f1 : decide (i < 2147483648) = true := decide_eq_true t1
    by_cases t2 : (0 : Int) ≤ e
    case neg =>
      have f2 : decide ((0 : Int) ≤ e) = false := decide_eq_false t2
      clear t0 t1 t2
      have c0 : w3.cell? ⟨g1, 0, none⟩ = some (.int .i64 i) := (HSx.row 0 rfl).get rfl
      have c1 : w3.cell? ⟨g1, 1, none⟩ = some (.int .i64 e) := (HSx.row 0 rfl).get rfl
      have c2 : w3.cell? ⟨g1, 2, none⟩ = some (.slice A n c) := (HSx.row 0 rfl).get rfl
      go_wp2_with fail
      refine (rpwakes_any w3).mono ?_
      rintro x9 w99 ⟨rfl, hb9⟩
      go_wp2_with fail
      go_ret
      exact ⟨rfl, HSx.below.trans (hb9.mono HSx.below.size)⟩
    have f2 : decide ((0 : Int) ≤ e) = true := decide_eq_true t2
    by_cases t3 : e ≤ 255
    case neg =>
      have f3 : decide (e ≤ 255) = false := decide_eq_false t3
      clear t0 t1 t2 t3
      have c0 : w3.cell? ⟨g1, 0, none⟩ = some (.int .i64 i) := (HSx.row 0 rfl).get rfl
      have c1 : w3.cell? ⟨g1, 1, none⟩ = some (.int .i64 e) := (HSx.row 0 rfl).get rfl
      have c2 : w3.cell? ⟨g1, 2, none⟩ = some (.slice A n c) := (HSx.row 0 rfl).get rfl
      go_wp2_with fail
      refine (rpwakes_any w3).mono ?_
      rintro x9 w99 ⟨rfl, hb9⟩
      go_wp2_with fail
      go_ret
      exact ⟨rfl, HSx.below.trans (hb9.mono HSx.below.size)⟩
    have f3 : decide (e ≤ 255) = true := decide_eq_true t3
    have t4 : ¬ ((n : Int) ≤ 255) := fun h => HNO.out ⟨t0, by omega, t2, t3, by omega⟩
    have f4 : decide ((n : Int) ≤ 255) = false := decide_eq_false t4
    clear t0 t1 t2 t3 t4
    have c0 : w3.cell? ⟨g1, 0, none⟩ = some (.int .i64 i) := (HSx.row 0 rfl).get rfl
    have c1 : w3.cell? ⟨g1, 1, none⟩ = some (.int .i64 e) := (HSx.row 0 rfl).get rfl
    have c2 : w3.cell? ⟨g1, 2, none⟩ = some (.slice A n c) := (HSx.row 0 rfl).get rfl
    go_wp2_with fail
    refine (rpwakes_any w3).mono ?_
    rintro x9 w99 ⟨rfl, hb9⟩
    go_wp2_with fail
    go_ret
    exact ⟨rfl, HSx.below.trans (hb9.mono HSx.below.size)⟩
  | true =>
    obtain ⟨t0, t1, t2, t3, t4⟩ := mayR_of hok
    obtain ⟨I, rfl⟩ : ∃ I : BitVec 32, i = wd I := ⟨wordZ i, (wd_wordZ t0 t1).symm⟩
    have HE := Lib.hid (fun W (hb : Below w.heap.size w W) => repenc_good (wd I) e A n c d HD.out W (HSL.out.below hb (Nat.le_refl _)) HA.out hok)
    obtain ⟨B, hB⟩ : ∃ B, repB (wd I) e d = B := ⟨_, rfl⟩
    have HBL : Hid (B.length = n + 8) := Lib.hid (by rw [← hB, length_repB, HD.out]; omega)
    have hR : B = four I ++ ([byteZ e, byteZ (d.length : Int)] ++ d ++ two (crcOf (repH (wd I) e d))) := by
      rw [← hB]; unfold repB repH; rw [wordZ_wd]; simp
    have HFO : Hid (∀ k < 4, B.getD k 0#8 = (I >>> (8 * k)).setWidth 8) := Lib.hid (fun k hk => by rw [hR]; exact four_at I _ hk)
    have HX4 : Hid (bd (B.getD 4 0#8) = e) := Lib.hid (by rw [hR, show (four I ++ ([byteZ e, byteZ (d.length : Int)] ++ d ++ two (crcOf (repH (wd I) e d)))).getD 4 0#8 = byteZ e from rfl, bd_byteZ t2 t3])
    have HX5 : Hid (bd (B.getD 5 0#8) = (n : Int)) := Lib.hid (by rw [hR, show (four I ++ ([byteZ e, byteZ (d.length : Int)] ++ d ++ two (crcOf (repH (wd I) e d)))).getD 5 0#8 = byteZ (d.length : Int) from rfl, HD.out, bd_byteZ (by omega) (by omega)])
    have HDD : Hid ((B.drop 6).take n = d) := Lib.hid (by
      rw [hR, show (four I ++ ([byteZ e, byteZ (d.length : Int)] ++ d ++ two (crcOf (repH (wd I) e d)))).drop 6 = d ++ two (crcOf (repH (wd I) e d)) from rfl]
      exact List.take_left' HD.out)
    have HTK : Hid (B.take (n + 6) = repH (wd I) e d) := Lib.hid (by rw [← hB]; unfold repB; exact List.take_left' (by rw [length_repH, HD.out]; omega))
    obtain ⟨K, hK⟩ : ∃ K, crcOf (repH (wd I) e d) = K := ⟨_, rfl⟩
    have hRK : B = repH (wd I) e d ++ two K := by rw [← hB, ← hK]; rfl
    have hHL : (repH (wd I) e d).length = n + 6 := by rw [length_repH, HD.out]; omega
    have HY1 : Hid (bd (B.getD (n + 6) 0#8) = bd (K.setWidth 8)) := Lib.hid (by rw [hRK, List.getD_eq_getElem?_getD, List.getElem?_append_right (by omega), hHL, Nat.sub_self]; rfl)
    have HY2 : Hid (bd (B.getD (n + 7) 0#8) = bd ((K >>> 8).setWidth 8)) := Lib.hid (by rw [hRK, List.getD_eq_getElem?_getD, List.getElem?_append_right (by omega), hHL, show n + 7 - (n + 6) = 1 by omega]; rfl)
    have HK := Lib.hid hK
    have HW8 : Hid (IntKind.i64.wrap (8 + (n : Int)) = (n : Int) + 8) := Lib.hid (by rw [i64_id _ (by omega) (by omega)]; omega)
    have HWE : Hid (IntKind.i64.wrap e = e) := Lib.hid (i64_id _ t2 (by omega))
    have HWN : Hid (IntKind.i64.wrap (n : Int) = (n : Int)) := Lib.hid (i64_id _ (by omega) (by omega))
    have HW6 : Hid (IntKind.i64.wrap ((n : Int) + 8 - 2) = (n : Int) + 6) := Lib.hid (by rw [i64_id _ (by omega) (by omega)]; omega)
    have HW7 : Hid (IntKind.i64.wrap ((n : Int) + 8 - 1) = (n : Int) + 7) := Lib.hid (by rw [i64_id _ (by omega) (by omega)]; omega)
    have H600 := Lib.hid h6
    have f0 : decide ((0 : Int) ≤ wd I) = true := decide_eq_true t0
    have f1 : decide (wd I < 2147483648) = true := decide_eq_true (by omega)
    have f2 : decide ((0 : Int) ≤ e) = true := decide_eq_true t2
    have f3 : decide (e ≤ 255) = true := decide_eq_true t3
    have f4 : decide ((n : Int) ≤ 255) = true := decide_eq_true (by omega)
    have HFS := Lib.hid (And.intro f0 (And.intro f1 (And.intro f2 (And.intro f3 f4))))
    rw [hB] at HE
    clear hok t0 t1 t2 t3 t4 h6 hB hR hK hRK hHL f0 f1 f2 f3 f4
    go_enter Try.func6, Try.ntmps6
    go_upto_region 1 with (first | ((with_reducible refine wpList_plain ?_ ?_); exact rfl; intro KK hKK; refine wp_st_box HS 31 (.tmp 0) rfl _ rfl (repCells (wd I) e (.slice A n c)) (rfl) (fun g1 W1 HSx => hKK _ _ ?_); clear hKK KK HS; have HS : St w noF [⟨g1, 31, repCells (wd I) e (.slice A n c)⟩] W1 := HSx; clear HSx))
    have HB1 := Lib.hid HS.below
    have C := HF.out W1 HS.below
    go_wp2_with (first | ((with_reducible refine wpList_plain ?_ ?_); exact rfl; intro KK hKK; refine wp_load_mid 31 (.tmp 1) rfl g1 0 rfl [.int .i64 (wd I), .int .i64 e, .slice A n c] _ ((HS.row 0 rfl).slab 0 _ (slab_whole _)) Try.underlying31 rfl (by exact size_rep) (hKK _ _ ?_); clear hKK KK))
    refine C.mono ?_
    rintro x w2 ⟨rfl, hw⟩
    have hb2 : Below W1.heap.size W1 w2 := by rw [← hw]; exact (Below.refl _ _).alloc (Nat.le_refl _) _
    have HSx := HS.same hb2
    clear HS hb2 C HF HB1 hw
    have HS := HSx
    clear HSx
    go_upto_region 3 with fail
    have C9 := HE.out w2 HS.below
    go_wp2_with (first | ((with_reducible refine wpList_plain ?_ ?_); exact rfl; intro KK hKK; refine wp_st_load HS 0 0 31 (.tmp 1) rfl rfl rfl (repCells (wd I) e (.slice A n c)) (slab_whole _) _ Try.underlying31 rfl (by exact size_rep) (hKK _ _ ?_); clear hKK KK))
    refine C9.mono ?_
    rintro x w3 ⟨v1, rfl, ho, hb1⟩
    have HSx := HS.same hb1
    clear HS hb1 HE C9
    obtain ⟨gb, cb, curb, rfl, _, hrb, hcb, htb⟩ := own_row ho (by rw [HBL.out]; omega)
    have HBA : Hid (BAt w3 gb 0 B) := Lib.hid (slice_at (row_pre (q := B) hrb htb hcb) (by rw [HBL.out]; omega))
    rw [HBL.out] at hcb ⊢
    have HC2 := Lib.hid hcb
    have HC1 : Hid ((n : Int) + 6 ≤ (cb : Int)) := Lib.hid (by omega)
    have HBT := Lib.hid HSx.below
    have HR1 : Hid (Row w3 g1 31 (repCells (wd I) e (.slice A n c))) := Lib.hid (HSx.row 0 rfl)
    have c0 : w3.cell? ⟨g1, 0, none⟩ = some (.int .i64 (wd I)) := HR1.out.get rfl
    have c1 : w3.cell? ⟨g1, 1, none⟩ = some (.int .i64 e) := HR1.out.get rfl
    have c2 : w3.cell? ⟨g1, 2, none⟩ = some (.slice A n c) := HR1.out.get rfl
    obtain ⟨f0, f1, f2, f3, f4⟩ := HFS.out
    clear ho hrb hcb htb HSx
    go_upto_region 5 with fail
    clear f0 f1 f2 f3 f4 c0 c1 c2
    go_upto_region 10 with fail
    have hF0 : Wl [(fun W => Below w.heap.size w W ∧ Row W g1 31 (repCells (wd I) e (.slice A n c)) ∧ BAt W gb 0 B)] 0 (World.drew _) := ⟨HBT.out.drew, HR1.out.call (Below.refl _ _).drew, HBA.out.call (Below.refl _ _).drew⟩
    clear HBT HR1 HBA
    refine wp_region_phs [is (.int .i64 ((n : Int) + 8)), is (.pointer (some ⟨g1, 2, none⟩)), is (.slice A n c), is (.int .i64 (n : Int)), is (.int .i64 ((n : Int) + 8)), is (.bool false), is (.bool false), is (.slice (some ⟨gb, 0, none⟩) (n + 8) cb), is (.pointer (some ⟨gb, 4, none⟩)), is (.int .u8 e), is (.int .i64 e), is (.pointer (some ⟨g1, 1, none⟩)), is (.int .i64 e), is (.bool false), is (.bool false), is (.bool false), is (.slice (some ⟨gb, 0, none⟩) (n + 8) cb), is (.pointer (some ⟨gb, 5, none⟩)), is (.int .u8 (n : Int)), is (.int .i64 (n : Int)), is (.pointer (some ⟨g1, 2, none⟩)), is (.slice A n c), is (.int .i64 (n : Int)), is (.bool false), is (.bool false), is (.bool false), is (.slice (some ⟨gb, 0, none⟩) (n + 8) cb), is (.int .i64 ((n : Int) + 8)), is (.int .i64 ((n : Int) + 6)), is (.slice (some ⟨gb, 6, none⟩) n (cb - 6)), is (.pointer (some ⟨g1, 2, none⟩)), is (.slice A n c), is (.bool true), is (.bool false), is (.bool false)] [true, true, true, true, true, true, true, true, true, true, true, true, true, true, true, true, true, true, true, true, true, true, true, true, true, true, true, true, true, true, true, true, true, true, true] [(fun W => Below w.heap.size w W ∧ Row W g1 31 (repCells (wd I) e (.slice A n c)) ∧ BAt W gb 0 B)] [false, false, false, false, false, false, false, false, false, false, false, false, false, false, false, false, false, false, false, false, false, false, false, false, false, false, false, false, false, false, false, false, false, false, false] [some 0, some 0, some 0, some 0, some 0, some 0, some 0, some 0, some 0, some 0, some 0, some 0, some 0, some 0, some 0, some 0, some 0, some 0, some 0, some 0, some 0, some 0, some 0, some 0, some 0, some 0, some 0, some 0, some 0, some 0, some 0, some 0, some 0, some 0, some 0] [some 65, some 66, some 67, some 68, some 69, some 70, some 71, some 72, some 73, some 74, some 75, some 76, some 77, some 78, some 79, some 80, some 81, some 82, some 83, some 84, some 85, some 86, some 87, some 88, some 89, some 90, some 91, some 92, some 93, some 94, some 95, some 96, some 97, some 98, some 99] 35 0 (fun _ => true) rfl rfl (by kernel_rfl) (by kernel_rfl) (by kernel_rfl) (by kernel_rfl) ?_ ?_ ?_ ?_ ?_ ?_
    · repeat first | exact wok_nil | refine wok_cons (by first | exact fun _ _ h k => ⟨h.1.trans (k.mono h.1.size), h.2.1.call k, h.2.2.call k⟩) ?_
    · repeat first | exact vok_nil | refine vok_rig (by first | exact fun _ _ _ h => h) ?_ | refine vok_soft (by first | exact fun _ _ _ h _ => h) ?_
    · exact hF0
    · repeat first | exact all_end (by decide) | refine all_cons (by first | exact rfl | exact ⟨rfl, fun _ _ h => Or.inl h⟩ | exact ⟨rfl, fun _ _ h => Or.inr ⟨h, rfl⟩⟩) ?_
    · refine allp_mild 0 rfl rfl rfl (fun a x W hout hin hP => ?_) ?_
      · have e6 : a.tmps[6]? = some (.int .i64 ((n : Int) + 8)) := (hout 6 (by kernel_rfl)).trans rfl
        exact does_move rfl e6 ⟨Same.refl _, rfl⟩
      refine allp_mild 0 rfl rfl rfl (fun a x W hout hin hP => ?_) ?_
      · have e1 : a.tmps[1]? = some (.pointer (some ⟨g1, 0, none⟩)) := (hout 1 (by kernel_rfl)).trans rfl
        clear hin hout
        intro K Q hK
        go_simp
        exact hK _ _ ⟨Same.refl _, rfl⟩
      refine allp_mild 0 rfl rfl rfl (fun a x W hout hin hP => ?_) ?_
      · have e66 := hin.is 1 66 (by kernel_rfl) (by decide) (by kernel_rfl) (by kernel_rfl) _ rfl
        have hc : W.cell? ⟨g1, 2, none⟩ = some (.slice A n c) := hP.2.1.get rfl
        clear hP
        clear hin hout
        intro K Q hK
        go_simp
        exact hK _ _ ⟨Same.refl _, rfl⟩
      refine allp_mild 0 rfl rfl rfl (fun a x W hout hin hP => ?_) ?_
      · have e67 := hin.is 2 67 (by kernel_rfl) (by decide) (by kernel_rfl) (by kernel_rfl) _ rfl
        clear hin hout
        intro K Q hK
        go_simp
        exact hK _ _ ⟨Same.refl _, rfl⟩
      refine allp_mild 0 rfl rfl rfl (fun a x W hout hin hP => ?_) ?_
      · have e68 := hin.is 3 68 (by kernel_rfl) (by decide) (by kernel_rfl) (by kernel_rfl) _ rfl
        have hw := HW8.out
        clear hin hout
        intro K Q hK
        go_simp
        exact hK _ _ ⟨Same.refl _, rfl⟩
      refine allp_mild 0 rfl rfl rfl (fun a x W hout hin hP => ?_) ?_
      · have e65 := hin.is 0 65 (by kernel_rfl) (by decide) (by kernel_rfl) (by kernel_rfl) _ rfl
        have e69 := hin.is 4 69 (by kernel_rfl) (by decide) (by kernel_rfl) (by kernel_rfl) _ rfl
        clear hin hout
        intro K Q hK
        go_simp
        exact hK _ _ ⟨Same.refl _, rfl⟩
      refine allp_mild 0 rfl rfl rfl (fun a x W hout hin hP => ?_) ?_
      · have e70 := hin.is 5 70 (by kernel_rfl) (by decide) (by kernel_rfl) (by kernel_rfl) _ rfl
        exact does_move rfl e70 ⟨Same.refl _, rfl⟩
      refine allp_mild 0 rfl rfl rfl (fun a x W hout hin hP => ?_) ?_
      · have e3 : a.tmps[3]? = some (.slice (some ⟨gb, 0, none⟩) (n + 8) cb) := (hout 3 (by kernel_rfl)).trans rfl
        exact does_move rfl e3 ⟨Same.refl _, rfl⟩
      refine allp_mild 0 rfl rfl rfl (fun a x W hout hin hP => ?_) ?_
      · have e72 := hin.is 7 72 (by kernel_rfl) (by decide) (by kernel_rfl) (by kernel_rfl) _ rfl
        have b9 : (4 : Int) < (n : Int) + 8 := by omega
        clear hin hout
        intro K Q hK
        go_simp
        exact hK _ _ ⟨Same.refl _, rfl⟩
      refine allp_mild 0 rfl rfl rfl (fun a x W hout hin hP => ?_) ?_
      · have e73 := hin.is 8 73 (by kernel_rfl) (by decide) (by kernel_rfl) (by kernel_rfl) _ rfl
        have hc : W.cell? ⟨gb, 4, none⟩ = some (.int .u8 e) := by have h := hP.2.2.get 4 (by rw [HBL.out]; omega); rw [Nat.zero_add, HX4.out] at h; exact h
        clear hP
        clear hin hout
        intro K Q hK
        go_simp
        exact hK _ _ ⟨Same.refl _, rfl⟩
      refine allp_mild 0 rfl rfl rfl (fun a x W hout hin hP => ?_) ?_
      · have e74 := hin.is 9 74 (by kernel_rfl) (by decide) (by kernel_rfl) (by kernel_rfl) _ rfl
        have hw := HWE.out
        clear hin hout
        intro K Q hK
        go_simp
        exact hK _ _ ⟨Same.refl _, rfl⟩
      refine allp_mild 0 rfl rfl rfl (fun a x W hout hin hP => ?_) ?_
      · have e1 : a.tmps[1]? = some (.pointer (some ⟨g1, 0, none⟩)) := (hout 1 (by kernel_rfl)).trans rfl
        clear hin hout
        intro K Q hK
        go_simp
        exact hK _ _ ⟨Same.refl _, rfl⟩
      refine allp_mild 0 rfl rfl rfl (fun a x W hout hin hP => ?_) ?_
      · have e76 := hin.is 11 76 (by kernel_rfl) (by decide) (by kernel_rfl) (by kernel_rfl) _ rfl
        have hc : W.cell? ⟨g1, 1, none⟩ = some (.int .i64 e) := hP.2.1.get rfl
        clear hP
        clear hin hout
        intro K Q hK
        go_simp
        exact hK _ _ ⟨Same.refl _, rfl⟩
      refine allp_mild 0 rfl rfl rfl (fun a x W hout hin hP => ?_) ?_
      · have e75 := hin.is 10 75 (by kernel_rfl) (by decide) (by kernel_rfl) (by kernel_rfl) _ rfl
        have e77 := hin.is 12 77 (by kernel_rfl) (by decide) (by kernel_rfl) (by kernel_rfl) _ rfl
        clear hin hout
        intro K Q hK
        go_simp
        exact hK _ _ ⟨Same.refl _, rfl⟩
      refine allp_mild 0 rfl rfl rfl (fun a x W hout hin hP => ?_) ?_
      · have e71 := hin.is 6 71 (by kernel_rfl) (by decide) (by kernel_rfl) (by kernel_rfl) _ rfl
        have e78 := hin.is 13 78 (by kernel_rfl) (by decide) (by kernel_rfl) (by kernel_rfl) _ rfl
        exact does_pick rfl e71 ⟨Same.refl _, eval_of_get e78⟩
      refine allp_mild 0 rfl rfl rfl (fun a x W hout hin hP => ?_) ?_
      · have e79 := hin.is 14 79 (by kernel_rfl) (by decide) (by kernel_rfl) (by kernel_rfl) _ rfl
        exact does_move rfl e79 ⟨Same.refl _, rfl⟩
      refine allp_mild 0 rfl rfl rfl (fun a x W hout hin hP => ?_) ?_
      · have e3 : a.tmps[3]? = some (.slice (some ⟨gb, 0, none⟩) (n + 8) cb) := (hout 3 (by kernel_rfl)).trans rfl
        exact does_move rfl e3 ⟨Same.refl _, rfl⟩
      refine allp_mild 0 rfl rfl rfl (fun a x W hout hin hP => ?_) ?_
      · have e81 := hin.is 16 81 (by kernel_rfl) (by decide) (by kernel_rfl) (by kernel_rfl) _ rfl
        have b9 : (5 : Int) < (n : Int) + 8 := by omega
        clear hin hout
        intro K Q hK
        go_simp
        exact hK _ _ ⟨Same.refl _, rfl⟩
      refine allp_mild 0 rfl rfl rfl (fun a x W hout hin hP => ?_) ?_
      · have e82 := hin.is 17 82 (by kernel_rfl) (by decide) (by kernel_rfl) (by kernel_rfl) _ rfl
        have hc : W.cell? ⟨gb, 5, none⟩ = some (.int .u8 (n : Int)) := by have h := hP.2.2.get 5 (by rw [HBL.out]; omega); rw [Nat.zero_add, HX5.out] at h; exact h
        clear hP
        clear hin hout
        intro K Q hK
        go_simp
        exact hK _ _ ⟨Same.refl _, rfl⟩
      refine allp_mild 0 rfl rfl rfl (fun a x W hout hin hP => ?_) ?_
      · have e83 := hin.is 18 83 (by kernel_rfl) (by decide) (by kernel_rfl) (by kernel_rfl) _ rfl
        have hw := HWN.out
        clear hin hout
        intro K Q hK
        go_simp
        exact hK _ _ ⟨Same.refl _, rfl⟩
      refine allp_mild 0 rfl rfl rfl (fun a x W hout hin hP => ?_) ?_
      · have e1 : a.tmps[1]? = some (.pointer (some ⟨g1, 0, none⟩)) := (hout 1 (by kernel_rfl)).trans rfl
        clear hin hout
        intro K Q hK
        go_simp
        exact hK _ _ ⟨Same.refl _, rfl⟩
      refine allp_mild 0 rfl rfl rfl (fun a x W hout hin hP => ?_) ?_
      · have e85 := hin.is 20 85 (by kernel_rfl) (by decide) (by kernel_rfl) (by kernel_rfl) _ rfl
        have hc : W.cell? ⟨g1, 2, none⟩ = some (.slice A n c) := hP.2.1.get rfl
        clear hP
        clear hin hout
        intro K Q hK
        go_simp
        exact hK _ _ ⟨Same.refl _, rfl⟩
      refine allp_mild 0 rfl rfl rfl (fun a x W hout hin hP => ?_) ?_
      · have e86 := hin.is 21 86 (by kernel_rfl) (by decide) (by kernel_rfl) (by kernel_rfl) _ rfl
        clear hin hout
        intro K Q hK
        go_simp
        exact hK _ _ ⟨Same.refl _, rfl⟩
      refine allp_mild 0 rfl rfl rfl (fun a x W hout hin hP => ?_) ?_
      · have e84 := hin.is 19 84 (by kernel_rfl) (by decide) (by kernel_rfl) (by kernel_rfl) _ rfl
        have e87 := hin.is 22 87 (by kernel_rfl) (by decide) (by kernel_rfl) (by kernel_rfl) _ rfl
        clear hin hout
        intro K Q hK
        go_simp
        exact hK _ _ ⟨Same.refl _, rfl⟩
      refine allp_mild 0 rfl rfl rfl (fun a x W hout hin hP => ?_) ?_
      · have e80 := hin.is 15 80 (by kernel_rfl) (by decide) (by kernel_rfl) (by kernel_rfl) _ rfl
        have e88 := hin.is 23 88 (by kernel_rfl) (by decide) (by kernel_rfl) (by kernel_rfl) _ rfl
        exact does_pick rfl e80 ⟨Same.refl _, eval_of_get e88⟩
      refine allp_mild 0 rfl rfl rfl (fun a x W hout hin hP => ?_) ?_
      · have e89 := hin.is 24 89 (by kernel_rfl) (by decide) (by kernel_rfl) (by kernel_rfl) _ rfl
        exact does_move rfl e89 ⟨Same.refl _, rfl⟩
      refine allp_mild 0 rfl rfl rfl (fun a x W hout hin hP => ?_) ?_
      · have e3 : a.tmps[3]? = some (.slice (some ⟨gb, 0, none⟩) (n + 8) cb) := (hout 3 (by kernel_rfl)).trans rfl
        exact does_move rfl e3 ⟨Same.refl _, rfl⟩
      refine allp_mild 0 rfl rfl rfl (fun a x W hout hin hP => ?_) ?_
      · have e6 : a.tmps[6]? = some (.int .i64 ((n : Int) + 8)) := (hout 6 (by kernel_rfl)).trans rfl
        exact does_move rfl e6 ⟨Same.refl _, rfl⟩
      refine allp_mild 0 rfl rfl rfl (fun a x W hout hin hP => ?_) ?_
      · have e92 := hin.is 27 92 (by kernel_rfl) (by decide) (by kernel_rfl) (by kernel_rfl) _ rfl
        have hw := HW6.out
        clear hin hout
        intro K Q hK
        go_simp
        exact hK _ _ ⟨Same.refl _, rfl⟩
      refine allp_mild 0 rfl rfl rfl (fun a x W hout hin hP => ?_) ?_
      · have e91 := hin.is 26 91 (by kernel_rfl) (by decide) (by kernel_rfl) (by kernel_rfl) _ rfl
        have e93 := hin.is 28 93 (by kernel_rfl) (by decide) (by kernel_rfl) (by kernel_rfl) _ rfl
        have k1 := HC1.out
        have k2 := HC2.out
        have k3 : (0 : Int) ≤ (n : Int) + 6 := by omega
        have k4 : (6 : Int) ≤ max ((n : Int) + 6) 0 := by omega
        have k5 : ¬ cb = 6 := by omega
        have k6 : ((n : Int) + 6).toNat - 6 = n := by omega
        clear hin hout
        intro K Q hK
        go_simp
        exact hK _ _ ⟨Same.refl _, rfl⟩
      refine allp_mild 0 rfl rfl rfl (fun a x W hout hin hP => ?_) ?_
      · have e1 : a.tmps[1]? = some (.pointer (some ⟨g1, 0, none⟩)) := (hout 1 (by kernel_rfl)).trans rfl
        clear hin hout
        intro K Q hK
        go_simp
        exact hK _ _ ⟨Same.refl _, rfl⟩
      refine allp_mild 0 rfl rfl rfl (fun a x W hout hin hP => ?_) ?_
      · have e95 := hin.is 30 95 (by kernel_rfl) (by decide) (by kernel_rfl) (by kernel_rfl) _ rfl
        have hc : W.cell? ⟨g1, 2, none⟩ = some (.slice A n c) := hP.2.1.get rfl
        clear hP
        clear hin hout
        intro K Q hK
        go_simp
        exact hK _ _ ⟨Same.refl _, rfl⟩
      refine allp_mild 0 rfl rfl rfl (fun a x W hout hin hP => ?_) ?_
      · have e94 := hin.is 29 94 (by kernel_rfl) (by decide) (by kernel_rfl) (by kernel_rfl) _ rfl
        have e96 := hin.is 31 96 (by kernel_rfl) (by decide) (by kernel_rfl) (by kernel_rfl) _ rfl
        have HS1 : Slice W (.slice (some ⟨gb, 6, none⟩) n (cb - 6)) d := HDD.out ▸ ((hP.2.2.drop 6).take n).slice (by rw [HDD.out]; exact HD.out) (by have := HC2.out; omega)
        have C := keepb_any _ _ d d W HS1 (HSL.out.below hP.1 (Nat.le_refl _))
        rw [decide_eq_true rfl] at C
        clear hP HS1
        clear hin hout
        intro K Q hK
        go_simp
        refine C.mono ?_
        rintro e W' ⟨rfl, rfl⟩
        exact hK _ _ ⟨Same.refl _, rfl⟩
      refine allp_mild 0 rfl rfl rfl (fun a x W hout hin hP => ?_) ?_
      · have e97 := hin.is 32 97 (by kernel_rfl) (by decide) (by kernel_rfl) (by kernel_rfl) _ rfl
        exact does_not rfl e97 ⟨Same.refl _, rfl⟩
      refine allp_mild 0 rfl rfl rfl (fun a x W hout hin hP => ?_) ?_
      · have e90 := hin.is 25 90 (by kernel_rfl) (by decide) (by kernel_rfl) (by kernel_rfl) _ rfl
        have e98 := hin.is 33 98 (by kernel_rfl) (by decide) (by kernel_rfl) (by kernel_rfl) _ rfl
        exact does_pick rfl e90 ⟨Same.refl _, eval_of_get e98⟩
      exact all_end (by decide)
    · intro x W hP hV
      have hx : x 34 = .bool false := hV 34 (by decide) (.inl (by kernel_rfl))
      have HBT := Lib.hid hP.1
      have HR1 := Lib.hid hP.2.1
      have HBA := Lib.hid hP.2.2
      clear hV hP
      simp only [putL, Act.put, List.setIfInBounds_toArray, List.set_cons_succ, List.set_cons_zero, hx]
      simp only [Nat.zero_add, Nat.reduceAdd]
      refine wpAnyH_done (by kernel_rfl) ?_ _
      clear hx
      go_upto_region 12 with fail
      go_wp2_with fail
      go_loopw [7] (fun v wr => ∃ k : Nat, k ≤ 4 ∧ v = .int .i64 k ∧ Below w.heap.size w wr ∧ Row wr g1 31 (repCells (wd I) e (.slice A n c)) ∧ BAt wr gb 0 B) (fun v _ => 4 - (intOf v).toNat)
      case atStart => exact ⟨0, by omega, rfl, HBT.out, HR1.out, HBA.out⟩
      case round =>
        obtain ⟨k, hk, rfl, hb1, hr1, hba1⟩ := hrel
        clear HBT HR1 HBA
        by_cases hlt : k < 4
        · have HF1 := Lib.hid (And.intro hb1 (And.intro hr1 hba1))
          clear hb1 hr1 hba1
          obtain ⟨s8, hs8⟩ : ∃ s8, 8 * k = s8 := ⟨_, rfl⟩
          obtain ⟨yk, hyk⟩ : ∃ yk, (I >>> s8).setWidth 8 = yk := ⟨_, rfl⟩
          have HK4 := Lib.hid hlt
          have HKI : Hid ((k : Int) < (n : Int) + 8 ∧ (0 : Int) ≤ (k : Int) ∧ k < n + 8) := Lib.hid ⟨by omega, by omega, by omega⟩
          have HYK : Hid (bd (B.getD k 0#8) = bd yk) := Lib.hid (by rw [HFO.out k hlt, ← hyk, ← hs8])
          have HS8 : Hid (IntKind.i64.wrap (8 * (k : Int)) = (s8 : Int)) := Lib.hid (by rw [i64_id _ (by omega) (by omega)]; omega)
          have HS8U : Hid (IntKind.u64.wrap (s8 : Int) = (s8 : Int)) := Lib.hid (by rw [IntKind.wrap_u64]; omega)
          have HSH : Hid (wd I / 2 ^ min s8 64 = wd (I >>> s8)) := Lib.hid (by rw [show min s8 64 = s8 by omega]; exact shr_wd I s8)
          have HSW : Hid (IntKind.i64.wrap (wd (I >>> s8)) = wd (I >>> s8)) := Lib.hid (i64_wd _)
          have HYW : Hid (IntKind.u8.wrap (wd (I >>> s8)) = bd yk) := Lib.hid (by rw [low_wd, hyk])
          clear hs8 hyk
          go_upto_region 15 with fail
          have hF0 : Wl [(fun W => Below w.heap.size w W ∧ Row W g1 31 (repCells (wd I) e (.slice A n c)) ∧ BAt W gb 0 B)] 0 (World.drew _) := ⟨HF1.out.1.drew, HF1.out.2.1.call (Below.refl _ _).drew, HF1.out.2.2.call (Below.refl _ _).drew⟩
          refine wp_region_phs [is (.slice (some ⟨gb, 0, none⟩) (n + 8) cb), is (.int .i64 (k : Int)), is (.pointer (some ⟨gb, k, none⟩)), is (.int .u8 (bd yk)), is (.pointer (some ⟨g1, 0, none⟩)), is (.int .i64 (wd I)), is (.int .i64 (k : Int)), is (.int .i64 (s8 : Int)), is (.int .u64 (s8 : Int)), is (.int .i64 (wd (I >>> s8))), is (.int .u8 (bd yk)), is (.bool false)] [true, true, true, true, true, true, true, true, true, true, true, true] [(fun W => Below w.heap.size w W ∧ Row W g1 31 (repCells (wd I) e (.slice A n c)) ∧ BAt W gb 0 B)] [false, false, false, false, false, false, false, false, false, false, false, false] [some 0, some 0, some 0, some 0, some 0, some 0, some 0, some 0, some 0, some 0, some 0, some 0] [some 104, some 105, some 106, some 107, some 108, some 109, some 110, some 111, some 112, some 113, some 114, some 115] 12 0 (fun _ => true) rfl rfl (by kernel_rfl) (by kernel_rfl) (by kernel_rfl) (by kernel_rfl) ?_ ?_ ?_ ?_ ?_ ?_
          · repeat first | exact wok_nil | refine wok_cons (by first | exact fun _ _ h k => ⟨h.1.trans (k.mono h.1.size), h.2.1.call k, h.2.2.call k⟩) ?_
          · repeat first | exact vok_nil | refine vok_rig (by first | exact fun _ _ _ h => h) ?_ | refine vok_soft (by first | exact fun _ _ _ h _ => h) ?_
          · exact hF0
          · repeat first | exact all_end (by decide) | refine all_cons (by first | exact rfl | exact ⟨rfl, fun _ _ h => Or.inl h⟩ | exact ⟨rfl, fun _ _ h => Or.inr ⟨h, rfl⟩⟩) ?_
          · refine allp_mild 0 rfl rfl rfl (fun a x W hout hin hP => ?_) ?_
            · have e3 : a.tmps[3]? = some (.slice (some ⟨gb, 0, none⟩) (n + 8) cb) := (hout 3 (by kernel_rfl)).trans rfl
              exact does_move rfl e3 ⟨Same.refl _, rfl⟩
            refine allp_mild 0 rfl rfl rfl (fun a x W hout hin hP => ?_) ?_
            · have e7 : a.tmps[7]? = some (.int .i64 (k : Int)) := (hout 7 (by kernel_rfl)).trans rfl
              exact does_move rfl e7 ⟨Same.refl _, rfl⟩
            refine allp_mild 0 rfl rfl rfl (fun a x W hout hin hP => ?_) ?_
            · have e104 := hin.is 0 104 (by kernel_rfl) (by decide) (by kernel_rfl) (by kernel_rfl) _ rfl
              have e105 := hin.is 1 105 (by kernel_rfl) (by decide) (by kernel_rfl) (by kernel_rfl) _ rfl
              have h1 := HKI.out
              have h2 := HK4.out
              clear hin hout
              intro K Q hK
              go_simp
              exact hK _ _ ⟨Same.refl _, rfl⟩
            refine allp_mild 0 rfl rfl rfl (fun a x W hout hin hP => ?_) ?_
            · have e106 := hin.is 2 106 (by kernel_rfl) (by decide) (by kernel_rfl) (by kernel_rfl) _ rfl
              have hc : W.cell? ⟨gb, k, none⟩ = some (.int .u8 (bd yk)) := by have h := hP.2.2.get k (by rw [HBL.out]; have := HK4.out; omega); rw [Nat.zero_add, HYK.out] at h; exact h
              clear hP
              clear hin hout
              intro K Q hK
              go_simp
              exact hK _ _ ⟨Same.refl _, rfl⟩
            refine allp_mild 0 rfl rfl rfl (fun a x W hout hin hP => ?_) ?_
            · have e1 : a.tmps[1]? = some (.pointer (some ⟨g1, 0, none⟩)) := (hout 1 (by kernel_rfl)).trans rfl
              clear hin hout
              intro K Q hK
              go_simp
              exact hK _ _ ⟨Same.refl _, rfl⟩
            refine allp_mild 0 rfl rfl rfl (fun a x W hout hin hP => ?_) ?_
            · have e108 := hin.is 4 108 (by kernel_rfl) (by decide) (by kernel_rfl) (by kernel_rfl) _ rfl
              have hc : W.cell? ⟨g1, 0, none⟩ = some (.int .i64 (wd I)) := hP.2.1.get rfl
              clear hP
              clear hin hout
              intro K Q hK
              go_simp
              exact hK _ _ ⟨Same.refl _, rfl⟩
            refine allp_mild 0 rfl rfl rfl (fun a x W hout hin hP => ?_) ?_
            · have e7 : a.tmps[7]? = some (.int .i64 (k : Int)) := (hout 7 (by kernel_rfl)).trans rfl
              exact does_move rfl e7 ⟨Same.refl _, rfl⟩
            refine allp_mild 0 rfl rfl rfl (fun a x W hout hin hP => ?_) ?_
            · have e110 := hin.is 6 110 (by kernel_rfl) (by decide) (by kernel_rfl) (by kernel_rfl) _ rfl
              have hw := HS8.out
              clear hin hout
              intro K Q hK
              go_simp
              exact hK _ _ ⟨Same.refl _, rfl⟩
            refine allp_mild 0 rfl rfl rfl (fun a x W hout hin hP => ?_) ?_
            · have e111 := hin.is 7 111 (by kernel_rfl) (by decide) (by kernel_rfl) (by kernel_rfl) _ rfl
              have hw := HS8U.out
              clear hin hout
              intro K Q hK
              go_simp
              exact hK _ _ ⟨Same.refl _, rfl⟩
            refine allp_mild 0 rfl rfl rfl (fun a x W hout hin hP => ?_) ?_
            · have e109 := hin.is 5 109 (by kernel_rfl) (by decide) (by kernel_rfl) (by kernel_rfl) _ rfl
              have e112 := hin.is 8 112 (by kernel_rfl) (by decide) (by kernel_rfl) (by kernel_rfl) _ rfl
              have hw := HSH.out
              have hw2 := HSW.out
              clear hin hout
              intro K Q hK
              go_simp
              exact hK _ _ ⟨Same.refl _, rfl⟩
            refine allp_mild 0 rfl rfl rfl (fun a x W hout hin hP => ?_) ?_
            · have e113 := hin.is 9 113 (by kernel_rfl) (by decide) (by kernel_rfl) (by kernel_rfl) _ rfl
              have hw := HYW.out
              clear hin hout
              intro K Q hK
              go_simp
              exact hK _ _ ⟨Same.refl _, rfl⟩
            refine allp_mild 0 rfl rfl rfl (fun a x W hout hin hP => ?_) ?_
            · have e107 := hin.is 3 107 (by kernel_rfl) (by decide) (by kernel_rfl) (by kernel_rfl) _ rfl
              have e114 := hin.is 10 114 (by kernel_rfl) (by decide) (by kernel_rfl) (by kernel_rfl) _ rfl
              clear hin hout
              intro K Q hK
              go_simp
              exact hK _ _ ⟨Same.refl _, rfl⟩
            exact all_end (by decide)
          · intro x W hP hV
            have hx : x 11 = .bool false := hV 11 (by decide) (.inl (by kernel_rfl))
            have HBT := Lib.hid hP.1
            have HR1 := Lib.hid hP.2.1
            have HBA := Lib.hid hP.2.2
            clear hV hP
            simp only [putL, Act.put, List.setIfInBounds_toArray, List.set_cons_succ, List.set_cons_zero, hx]
            simp only [Nat.zero_add, Nat.reduceAdd]
            refine wpAnyH_done (by kernel_rfl) ?_ _
            clear hx
            go_wp2_with fail
            exact ⟨⟨k + 1, by omega, by go_num, HBT.out, HR1.out, HBA.out⟩, by simp [intOf]; omega⟩
        · obtain rfl : k = 4 := by omega
          have HB9 := Lib.hid hb1
          have hsl : Slice wr (.slice (some ⟨gb, 0, none⟩) (n + 6) cb) (repH (wd I) e d) := HTK.out ▸ (hba1.take (n + 6)).slice (by rw [List.length_take, HBL.out]; omega) (by have := HC2.out; omega)
          have CK := check_any [repH (wd I) e d] _ _ (parts1 hsl) (by simp [maxLen]) (by simp [length_repH, HD.out, maxLen]; have := H600.out; omega)
          rw [List.flatten_cons, List.flatten_nil, List.append_nil, HK.out] at CK
          have hba2 := hba1.call ((Below.refl wr.heap.size wr).alloc (Nat.le_refl _) (.cells #[.slice (some ⟨gb, 0, none⟩) (n + 6) cb] 23))
          have d6 : (wr.alloc (.cells #[.slice (some ⟨gb, 0, none⟩) (n + 6) cb] 23)).cell? ⟨gb, n + 6, none⟩ = some (.int .u8 (bd (K.setWidth 8))) := by have h := hba2.get (n + 6) (by rw [HBL.out]; omega); rw [Nat.zero_add, HY1.out] at h; exact h
          have d7 : (wr.alloc (.cells #[.slice (some ⟨gb, 0, none⟩) (n + 6) cb] 23)).cell? ⟨gb, n + 7, none⟩ = some (.int .u8 (bd ((K >>> 8).setWidth 8))) := by have h := hba2.get (n + 7) (by rw [HBL.out]; omega); rw [Nat.zero_add, HY2.out] at h; exact h
          have HBN := Lib.hid (HB9.out.alloc HB9.out.size (.cells #[.slice (some ⟨gb, 0, none⟩) (n + 6) cb] 23))
          have HD6 := Lib.hid d6
          have HD7 := Lib.hid d7
          have k1 := HC1.out
          have k2 := HC2.out
          have hw6 := HW6.out
          clear d6 d7 hba1 hba2 hr1 hb1 hsl
          go_upto_region 17 with fail
          go_wp2_with fail
          refine CK.mono ?_
          rintro x w7 ⟨rfl, rfl⟩
          clear CK k1 k2
          have d6 := HD6.out
          have d7 := HD7.out
          have hw7 := HW7.out
          have hl1 := lowb_hd K
          have hl2 := lowb8_hd K
          have b1 : (n : Int) + 6 < (n : Int) + 8 := by omega
          have b2 : (n : Int) + 7 < (n : Int) + 8 := by omega
          have b3 : (0 : Int) ≤ (n : Int) + 6 := by omega
          have b4 : (0 : Int) ≤ (n : Int) + 7 := by omega
          go_wp2_with fail
          refine (rpwakes_any _).mono ?_
          rintro x9 w99 ⟨rfl, hb9⟩
          go_wp2_with fail
          go_ret
          exact ⟨rfl, HBN.out.trans (hb9.mono HBN.out.size)⟩
end Go.Proofs.Ytamofhjnpahamaa
