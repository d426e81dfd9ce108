/- The statement SenderWaits: its walk. -/
import Derived.Test.YtppbgkdkioldbaaSndWakes
set_option maxRecDepth 4000
namespace Go.Proofs.Ytppbgkdkioldbaa
open Go Go.RowKit
def stK : Nat → Snd
  | 0 => snd0
  | k + 1 => ⟨pkt0, syncP k (BitVec.ofNat 32 (k + 5)), 0, false⟩
theorem stop_true {S : Snd} (h : S.o.k ≠ 0) : stopS S true = ⟨pkt0, S.o, 0, false⟩ := by unfold stopS; rw [if_pos rfl, if_neg h]
theorem wtE0 : sendE (stK 0) (syncP 0 5#32) = 0 := by decide +kernel
theorem wtS0 : sendS (stK 0) (syncP 0 5#32) = ⟨(syncP 0 5#32), pkt0, 0, false⟩ := by decide +kernel
theorem wtT0 (n : Int) : stopS ⟨(syncP 0 5#32), pkt0, n, false⟩ true = ⟨pkt0, (syncP 0 5#32), 0, false⟩ := stop_true (show (2 : Int) ≠ 0 by decide)
theorem wtN0 : missN ⟨pkt0, (syncP 0 5#32), 0, false⟩ = 0 := by decide +kernel
theorem wtM0 : missS ⟨pkt0, (syncP 0 5#32), 0, false⟩ = ⟨pkt0, (syncP 0 5#32), 0, false⟩ := by decide +kernel
theorem wtU0 : stopS ⟨pkt0, (syncP 0 5#32), 0, false⟩ true = stK 1 := by decide +kernel
theorem wtE1 : sendE (stK 1) (syncP 1 6#32) = 0 := by decide +kernel
theorem wtS1 : sendS (stK 1) (syncP 1 6#32) = ⟨(syncP 1 6#32), (syncP 0 5#32), 0, false⟩ := by decide +kernel
theorem wtT1 (n : Int) : stopS ⟨(syncP 1 6#32), (syncP 0 5#32), n, false⟩ true = ⟨pkt0, (syncP 1 6#32), 0, false⟩ := stop_true (show (2 : Int) ≠ 0 by decide)
theorem wtN1 : missN ⟨pkt0, (syncP 1 6#32), 0, false⟩ = 0 := by decide +kernel
theorem wtM1 : missS ⟨pkt0, (syncP 1 6#32), 0, false⟩ = ⟨pkt0, (syncP 1 6#32), 0, false⟩ := by decide +kernel
theorem wtU1 : stopS ⟨pkt0, (syncP 1 6#32), 0, false⟩ true = stK 2 := by decide +kernel
theorem wtE2 : sendE (stK 2) (syncP 2 7#32) = 0 := by decide +kernel
theorem wtS2 : sendS (stK 2) (syncP 2 7#32) = ⟨(syncP 2 7#32), (syncP 1 6#32), 0, false⟩ := by decide +kernel
theorem wtT2 (n : Int) : stopS ⟨(syncP 2 7#32), (syncP 1 6#32), n, false⟩ true = ⟨pkt0, (syncP 2 7#32), 0, false⟩ := stop_true (show (2 : Int) ≠ 0 by decide)
theorem wtN2 : missN ⟨pkt0, (syncP 2 7#32), 0, false⟩ = 0 := by decide +kernel
theorem wtM2 : missS ⟨pkt0, (syncP 2 7#32), 0, false⟩ = ⟨pkt0, (syncP 2 7#32), 0, false⟩ := by decide +kernel
theorem wtU2 : stopS ⟨pkt0, (syncP 2 7#32), 0, false⟩ true = stK 3 := by decide +kernel
set_option maxHeartbeats 6400000 in
theorem sdwaits_walk (q : List (BitVec 8)) (w : World) (hq : q.length = 3) : Calls Try.prog 7 #[.agg (bs q)] w fun e w' => e = .returned (.bool true) ∧ Below w.heap.size w w' := by
  have HQ := Lib.hid hq
  have HS := St.nil w noF
  go_enter Try.func7, Try.ntmps7
  go_upto_region 1 with (first | ((with_reducible refine wpList_plain ?_ ?_); exact rfl; intro KK hKK; refine wp_st_box HS 66 (.tmp 0) rfl _ rfl (bs q) (rfl) (fun g1 W1 HSx => hKK _ _ ?_); clear hKK KK HS; have HS : St w noF [⟨g1, 66, bs q⟩] W1 := HSx; clear HSx))
  have HB0 := Lib.hid HS.below
  have HR1 := Lib.hid (HS.row 0 rfl)
  have HC1 : Hid (∀ k, k < 3 → ∀ W, Below W1.heap.size W1 W → W.cell? ⟨g1, k, none⟩ = some (.int .u8 (bd (q.getD k 0#8)))) := Lib.hid fun k hk W hb => (HR1.out.call hb).get (by
    simp only [bs]
    rw [List.getElem?_toArray, List.getElem?_map, List.getD_eq_getElem?_getD, List.getElem?_eq_getElem (by rw [HQ.out]; exact hk)]
    rfl)
  clear HS hq
  have H0 := Lib.hid (sit_new W1 W1 (Below.refl _ _) #[.int .i64 0, .int .u32 0, .int .u32 0, .slice none 0 0, .int .i64 0, .int .u32 0, .int .u32 0, .slice none 0 0, .int .i64 0, .bool false] rfl)
  have C := missed_sit H0.out (by decide)
  rw [show missN snd0 = 0 from rfl, show missS snd0 = snd0 from rfl] at C
  go_wp2_with fail
  refine C.mono ?_
  rintro x w10 ⟨rfl, hs⟩
  have HSIT := Lib.hid hs
  clear C hs H0 HR1
  go_wp2_with fail
  go_loopw [4] (fun i wr => ∃ k : Nat, k ≤ 3 ∧ i = .int .i64 k ∧ Sit W1 wr W1.heap.size (stK k)) (fun i _ => 3 - (intOf i).toNat)
  case atStart => exact ⟨0, by omega, rfl, HSIT.out⟩
  case round =>
    obtain ⟨k, hk, rfl, hs⟩ := hrel
    clear HSIT
    have HSIT := Lib.hid hs
    clear hs
    obtain rfl | rfl | rfl | rfl : k = 0 ∨ k = 1 ∨ k = 2 ∨ k = 3 := by omega
    · have C := sync_any 0 5#32 wr (by decide)
      rw [show wd 5#32 = 5 from rfl] at C
      go_wp2_with fail
      refine C.mono ?_
      rintro x w20 ⟨B, m, d, rfl, hp, hb⟩
      have H20 := Lib.hid (HSIT.out.call hb)
      clear C hb
      have C := send_sit H20.out (syncP 0 5#32) B m d hp (by decide)
      rw [wtE0, wtS0] at C
      go_wp2_with fail
      refine C.mono ?_
      rintro x w21 ⟨rfl, hs⟩
      have H21 := Lib.hid hs
      clear C hs hp H20 HSIT
      obtain ⟨M, hM⟩ : ∃ M : Nat, (bd (q.getD 0 0#8)).tmod 20 = M := ⟨((bd (q.getD 0 0#8)).tmod 20).toNat, by have := bd_lo (q.getD 0 0#8); rw [Int.tmod_eq_emod_of_nonneg (by omega)]; omega⟩
      have hM20 : M < 20 := by have := bd_lo (q.getD 0 0#8); rw [Int.tmod_eq_emod_of_nonneg (by omega)] at hM; omega
      have hwx : IntKind.i64.wrap (bd (q.getD 0 0#8)) = bd (q.getD 0 0#8) := by have := bd_lo (q.getD 0 0#8); have := bd_hi (q.getD 0 0#8); rw [IntKind.wrap_i64]; omega
      obtain ⟨y, hy⟩ : ∃ y, q.getD 0 0#8 = y := ⟨_, rfl⟩
      rw [hy] at hM hwx
      have HCY : Hid (∀ W, Below W1.heap.size W1 W → W.cell? ⟨g1, 0, none⟩ = some (.int .u8 (bd y))) := Lib.hid fun W hb => by rw [← hy]; exact HC1.out 0 (by decide) W hb
      clear hy
      go_wp2_with fail
      go_loopw [5] (fun i wq => ∃ j : Nat, j ≤ M ∧ i = .int .i64 j ∧ Sit W1 wq W1.heap.size ⟨(syncP 0 5#32), pkt0, j, false⟩) (fun i _ => M - (intOf i).toNat)
      case atStart => exact ⟨0, by omega, rfl, H21.out⟩
      case round =>
        obtain ⟨j, hj, rfl, hs⟩ := hrel
        have HJ := Lib.hid hs
        have hcy := HCY.out wr hs.2.1
        clear hs H21
        by_cases hlt : j < M
        · have hd1 : decide ((j : Int) < (M : Int)) = true := decide_eq_true (by omega)
          have hjM : (j : Int) < (M : Int) := by omega
          have C := missed_sit HJ.out (by show 0 ≤ (j : Int) ∧ (j : Int) ≤ 1000000; omega)
          rw [show missN ⟨(syncP 0 5#32), pkt0, j, false⟩ = (j : Int) + 1 from if_neg (show ¬ ((2 : Int) = 0) by decide), show missS ⟨(syncP 0 5#32), pkt0, j, false⟩ = ⟨(syncP 0 5#32), pkt0, (j : Int) + 1, false⟩ from if_neg (show ¬ ((2 : Int) = 0) by decide)] at C
          have hw1 : IntKind.i64.wrap ((j : Int) + 1) = (j : Int) + 1 := by rw [IntKind.wrap_i64]; omega
          go_wp2_with fail
          refine C.mono ?_
          rintro x w30 ⟨rfl, hs⟩
          have H30 := Lib.hid hs
          clear C hs HJ hcy
          go_wp2_with fail
          exact ⟨⟨j + 1, by omega, by go_num, H30.out⟩, by simp [intOf]; omega⟩
        · obtain rfl : j = M := by omega
          have hd1 : ¬ ((j : Int) < (j : Int)) := by omega
          have C := early_sit HJ.out (by show (pkt0).l.length ≤ 5; decide)
          go_wp2_with fail
          refine C.mono ?_
          rintro x v101 ⟨B9, m9, d9, rfl, _, hs⟩
          have Hv101 := Lib.hid hs
          clear C hs HJ
          have HT := St.nil v101 noF
          go_upto_region 15 with (first | ((with_reducible refine wpList_plain ?_ ?_); exact rfl; intro KK hKK; refine wp_st_alloc HT 30 (pktA 0 0#32 0#32 (.slice none 0 0)) rfl (.agg (pktA 0 0#32 0#32 (.slice none 0 0))) (by kernel_rfl) (rfl) (fun g6 W1021 HSx => hKK _ _ ?_); clear hKK KK HT; have HT : St v101 noF [⟨g6, 30, pktA 0 0#32 0#32 (.slice none 0 0)⟩] W1021 := HSx; clear HSx) | ((with_reducible refine wpList_plain ?_ ?_); exact rfl; intro KK hKK; refine wp_st_store HT 0 0 30 (.tmp 6) (.tmp 44) rfl rfl rfl (.agg (pktA (pkt0).k (pkt0).e (pkt0).s (.slice B9 m9 d9))) rfl (by exact size_pkt) (Nat.le_refl 4) (pkt_one ..) (pktA (pkt0).k (pkt0).e (pkt0).s (.slice B9 m9 d9)) (by exact spl_agg _ _ _ rfl rfl) (fun W1022 HSx => hKK _ _ ?_); clear hKK KK HT; have HT : St v101 noF [⟨g6, 30, pktA (pkt0).k (pkt0).e (pkt0).s (.slice B9 m9 d9)⟩] W1022 := HSx; clear HSx))
          have Hv102 := Lib.hid (Hv101.out.call HT.below)
          have c2 : W1022.cell? ⟨g6, 2, none⟩ = some (.int .u32 (wd (pkt0).s)) := (HT.row 0 rfl).get rfl
          clear HT Hv101
          clear hcy
          have C := stop_sit Hv102.out true
          rw [wtT0] at C
          go_wp2_with fail
          refine C.mono ?_
          rintro x v103 ⟨rfl, hs⟩
          have Hv103 := Lib.hid (hs)
          clear C Hv102
          clear hs
          have C := missed_sit Hv103.out (by decide)
          rw [wtN0, wtM0] at C
          go_wp2_with fail
          refine C.mono ?_
          rintro x v104 ⟨rfl, hs⟩
          have Hv104 := Lib.hid (hs)
          clear C Hv103
          clear hs
          have C := stop_sit Hv104.out true
          rw [wtU0] at C
          go_wp2_with fail
          refine C.mono ?_
          rintro x v105 ⟨rfl, hs⟩
          have Hv105 := Lib.hid (hs)
          clear C Hv104
          clear hs
          go_wp2_with fail
          exact ⟨⟨1, by omega, by first | rfl | trivial | go_num, Hv105.out⟩, by simp [intOf]⟩
    · have C := sync_any 1 6#32 wr (by decide)
      rw [show wd 6#32 = 6 from rfl] at C
      go_wp2_with fail
      refine C.mono ?_
      rintro x w20 ⟨B, m, d, rfl, hp, hb⟩
      have H20 := Lib.hid (HSIT.out.call hb)
      clear C hb
      have C := send_sit H20.out (syncP 1 6#32) B m d hp (by decide)
      rw [wtE1, wtS1] at C
      go_wp2_with fail
      refine C.mono ?_
      rintro x w21 ⟨rfl, hs⟩
      have H21 := Lib.hid hs
      clear C hs hp H20 HSIT
      obtain ⟨M, hM⟩ : ∃ M : Nat, (bd (q.getD 1 0#8)).tmod 20 = M := ⟨((bd (q.getD 1 0#8)).tmod 20).toNat, by have := bd_lo (q.getD 1 0#8); rw [Int.tmod_eq_emod_of_nonneg (by omega)]; omega⟩
      have hM20 : M < 20 := by have := bd_lo (q.getD 1 0#8); rw [Int.tmod_eq_emod_of_nonneg (by omega)] at hM; omega
      have hwx : IntKind.i64.wrap (bd (q.getD 1 0#8)) = bd (q.getD 1 0#8) := by have := bd_lo (q.getD 1 0#8); have := bd_hi (q.getD 1 0#8); rw [IntKind.wrap_i64]; omega
      obtain ⟨y, hy⟩ : ∃ y, q.getD 1 0#8 = y := ⟨_, rfl⟩
      rw [hy] at hM hwx
      have HCY : Hid (∀ W, Below W1.heap.size W1 W → W.cell? ⟨g1, 1, none⟩ = some (.int .u8 (bd y))) := Lib.hid fun W hb => by rw [← hy]; exact HC1.out 1 (by decide) W hb
      clear hy
      go_wp2_with fail
      go_loopw [5] (fun i wq => ∃ j : Nat, j ≤ M ∧ i = .int .i64 j ∧ Sit W1 wq W1.heap.size ⟨(syncP 1 6#32), (syncP 0 5#32), j, false⟩) (fun i _ => M - (intOf i).toNat)
      case atStart => exact ⟨0, by omega, rfl, H21.out⟩
      case round =>
        obtain ⟨j, hj, rfl, hs⟩ := hrel
        have HJ := Lib.hid hs
        have hcy := HCY.out wr hs.2.1
        clear hs H21
        by_cases hlt : j < M
        · have hd1 : decide ((j : Int) < (M : Int)) = true := decide_eq_true (by omega)
          have hjM : (j : Int) < (M : Int) := by omega
          have C := missed_sit HJ.out (by show 0 ≤ (j : Int) ∧ (j : Int) ≤ 1000000; omega)
          rw [show missN ⟨(syncP 1 6#32), (syncP 0 5#32), j, false⟩ = (j : Int) + 1 from if_neg (show ¬ ((2 : Int) = 0) by decide), show missS ⟨(syncP 1 6#32), (syncP 0 5#32), j, false⟩ = ⟨(syncP 1 6#32), (syncP 0 5#32), (j : Int) + 1, false⟩ from if_neg (show ¬ ((2 : Int) = 0) by decide)] at C
          have hw1 : IntKind.i64.wrap ((j : Int) + 1) = (j : Int) + 1 := by rw [IntKind.wrap_i64]; omega
          go_wp2_with fail
          refine C.mono ?_
          rintro x w30 ⟨rfl, hs⟩
          have H30 := Lib.hid hs
          clear C hs HJ hcy
          go_wp2_with fail
          exact ⟨⟨j + 1, by omega, by go_num, H30.out⟩, by simp [intOf]; omega⟩
        · obtain rfl : j = M := by omega
          have hd1 : ¬ ((j : Int) < (j : Int)) := by omega
          have C := early_sit HJ.out (by show ((syncP 0 5#32)).l.length ≤ 5; decide)
          go_wp2_with fail
          refine C.mono ?_
          rintro x v201 ⟨B9, m9, d9, rfl, _, hs⟩
          have Hv201 := Lib.hid hs
          clear C hs HJ
          have HT := St.nil v201 noF
          go_upto_region 15 with (first | ((with_reducible refine wpList_plain ?_ ?_); exact rfl; intro KK hKK; refine wp_st_alloc HT 30 (pktA 0 0#32 0#32 (.slice none 0 0)) rfl (.agg (pktA 0 0#32 0#32 (.slice none 0 0))) (by kernel_rfl) (rfl) (fun g6 W2021 HSx => hKK _ _ ?_); clear hKK KK HT; have HT : St v201 noF [⟨g6, 30, pktA 0 0#32 0#32 (.slice none 0 0)⟩] W2021 := HSx; clear HSx) | ((with_reducible refine wpList_plain ?_ ?_); exact rfl; intro KK hKK; refine wp_st_store HT 0 0 30 (.tmp 6) (.tmp 44) rfl rfl rfl (.agg (pktA ((syncP 0 5#32)).k ((syncP 0 5#32)).e ((syncP 0 5#32)).s (.slice B9 m9 d9))) rfl (by exact size_pkt) (Nat.le_refl 4) (pkt_one ..) (pktA ((syncP 0 5#32)).k ((syncP 0 5#32)).e ((syncP 0 5#32)).s (.slice B9 m9 d9)) (by exact spl_agg _ _ _ rfl rfl) (fun W2022 HSx => hKK _ _ ?_); clear hKK KK HT; have HT : St v201 noF [⟨g6, 30, pktA ((syncP 0 5#32)).k ((syncP 0 5#32)).e ((syncP 0 5#32)).s (.slice B9 m9 d9)⟩] W2022 := HSx; clear HSx))
          have Hv202 := Lib.hid (Hv201.out.call HT.below)
          have c2 : W2022.cell? ⟨g6, 2, none⟩ = some (.int .u32 (wd ((syncP 0 5#32)).s)) := (HT.row 0 rfl).get rfl
          clear HT Hv201
          clear hcy
          have C := stop_sit Hv202.out true
          rw [wtT1] at C
          go_wp2_with fail
          refine C.mono ?_
          rintro x v203 ⟨rfl, hs⟩
          have Hv203 := Lib.hid (hs)
          clear C Hv202
          clear hs
          have C := missed_sit Hv203.out (by decide)
          rw [wtN1, wtM1] at C
          go_wp2_with fail
          refine C.mono ?_
          rintro x v204 ⟨rfl, hs⟩
          have Hv204 := Lib.hid (hs)
          clear C Hv203
          clear hs
          have C := stop_sit Hv204.out true
          rw [wtU1] at C
          go_wp2_with fail
          refine C.mono ?_
          rintro x v205 ⟨rfl, hs⟩
          have Hv205 := Lib.hid (hs)
          clear C Hv204
          clear hs
          go_wp2_with fail
          exact ⟨⟨2, by omega, by first | rfl | trivial | go_num, Hv205.out⟩, by simp [intOf]⟩
    · have C := sync_any 2 7#32 wr (by decide)
      rw [show wd 7#32 = 7 from rfl] at C
      go_wp2_with fail
      refine C.mono ?_
      rintro x w20 ⟨B, m, d, rfl, hp, hb⟩
      have H20 := Lib.hid (HSIT.out.call hb)
      clear C hb
      have C := send_sit H20.out (syncP 2 7#32) B m d hp (by decide)
      rw [wtE2, wtS2] at C
      go_wp2_with fail
      refine C.mono ?_
      rintro x w21 ⟨rfl, hs⟩
      have H21 := Lib.hid hs
      clear C hs hp H20 HSIT
      obtain ⟨M, hM⟩ : ∃ M : Nat, (bd (q.getD 2 0#8)).tmod 20 = M := ⟨((bd (q.getD 2 0#8)).tmod 20).toNat, by have := bd_lo (q.getD 2 0#8); rw [Int.tmod_eq_emod_of_nonneg (by omega)]; omega⟩
      have hM20 : M < 20 := by have := bd_lo (q.getD 2 0#8); rw [Int.tmod_eq_emod_of_nonneg (by omega)] at hM; omega
      have hwx : IntKind.i64.wrap (bd (q.getD 2 0#8)) = bd (q.getD 2 0#8) := by have := bd_lo (q.getD 2 0#8); have := bd_hi (q.getD 2 0#8); rw [IntKind.wrap_i64]; omega
      obtain ⟨y, hy⟩ : ∃ y, q.getD 2 0#8 = y := ⟨_, rfl⟩
      rw [hy] at hM hwx
      have HCY : Hid (∀ W, Below W1.heap.size W1 W → W.cell? ⟨g1, 2, none⟩ = some (.int .u8 (bd y))) := Lib.hid fun W hb => by rw [← hy]; exact HC1.out 2 (by decide) W hb
      clear hy
      go_wp2_with fail
      go_loopw [5] (fun i wq => ∃ j : Nat, j ≤ M ∧ i = .int .i64 j ∧ Sit W1 wq W1.heap.size ⟨(syncP 2 7#32), (syncP 1 6#32), j, false⟩) (fun i _ => M - (intOf i).toNat)
      case atStart => exact ⟨0, by omega, rfl, H21.out⟩
      case round =>
        obtain ⟨j, hj, rfl, hs⟩ := hrel
        have HJ := Lib.hid hs
        have hcy := HCY.out wr hs.2.1
        clear hs H21
        by_cases hlt : j < M
        · have hd1 : decide ((j : Int) < (M : Int)) = true := decide_eq_true (by omega)
          have hjM : (j : Int) < (M : Int) := by omega
          have C := missed_sit HJ.out (by show 0 ≤ (j : Int) ∧ (j : Int) ≤ 1000000; omega)
          rw [show missN ⟨(syncP 2 7#32), (syncP 1 6#32), j, false⟩ = (j : Int) + 1 from if_neg (show ¬ ((2 : Int) = 0) by decide), show missS ⟨(syncP 2 7#32), (syncP 1 6#32), j, false⟩ = ⟨(syncP 2 7#32), (syncP 1 6#32), (j : Int) + 1, false⟩ from if_neg (show ¬ ((2 : Int) = 0) by decide)] at C
          have hw1 : IntKind.i64.wrap ((j : Int) + 1) = (j : Int) + 1 := by rw [IntKind.wrap_i64]; omega
          go_wp2_with fail
          refine C.mono ?_
          rintro x w30 ⟨rfl, hs⟩
          have H30 := Lib.hid hs
          clear C hs HJ hcy
          go_wp2_with fail
          exact ⟨⟨j + 1, by omega, by go_num, H30.out⟩, by simp [intOf]; omega⟩
        · obtain rfl : j = M := by omega
          have hd1 : ¬ ((j : Int) < (j : Int)) := by omega
          have C := early_sit HJ.out (by show ((syncP 1 6#32)).l.length ≤ 5; decide)
          go_wp2_with fail
          refine C.mono ?_
          rintro x v301 ⟨B9, m9, d9, rfl, _, hs⟩
          have Hv301 := Lib.hid hs
          clear C hs HJ
          have HT := St.nil v301 noF
          go_upto_region 15 with (first | ((with_reducible refine wpList_plain ?_ ?_); exact rfl; intro KK hKK; refine wp_st_alloc HT 30 (pktA 0 0#32 0#32 (.slice none 0 0)) rfl (.agg (pktA 0 0#32 0#32 (.slice none 0 0))) (by kernel_rfl) (rfl) (fun g6 W3021 HSx => hKK _ _ ?_); clear hKK KK HT; have HT : St v301 noF [⟨g6, 30, pktA 0 0#32 0#32 (.slice none 0 0)⟩] W3021 := HSx; clear HSx) | ((with_reducible refine wpList_plain ?_ ?_); exact rfl; intro KK hKK; refine wp_st_store HT 0 0 30 (.tmp 6) (.tmp 44) rfl rfl rfl (.agg (pktA ((syncP 1 6#32)).k ((syncP 1 6#32)).e ((syncP 1 6#32)).s (.slice B9 m9 d9))) rfl (by exact size_pkt) (Nat.le_refl 4) (pkt_one ..) (pktA ((syncP 1 6#32)).k ((syncP 1 6#32)).e ((syncP 1 6#32)).s (.slice B9 m9 d9)) (by exact spl_agg _ _ _ rfl rfl) (fun W3022 HSx => hKK _ _ ?_); clear hKK KK HT; have HT : St v301 noF [⟨g6, 30, pktA ((syncP 1 6#32)).k ((syncP 1 6#32)).e ((syncP 1 6#32)).s (.slice B9 m9 d9)⟩] W3022 := HSx; clear HSx))
          have Hv302 := Lib.hid (Hv301.out.call HT.below)
          have c2 : W3022.cell? ⟨g6, 2, none⟩ = some (.int .u32 (wd ((syncP 1 6#32)).s)) := (HT.row 0 rfl).get rfl
          clear HT Hv301
          clear hcy
          have C := stop_sit Hv302.out true
          rw [wtT2] at C
          go_wp2_with fail
          refine C.mono ?_
          rintro x v303 ⟨rfl, hs⟩
          have Hv303 := Lib.hid (hs)
          clear C Hv302
          clear hs
          have C := missed_sit Hv303.out (by decide)
          rw [wtN2, wtM2] at C
          go_wp2_with fail
          refine C.mono ?_
          rintro x v304 ⟨rfl, hs⟩
          have Hv304 := Lib.hid (hs)
          clear C Hv303
          clear hs
          have C := stop_sit Hv304.out true
          rw [wtU2] at C
          go_wp2_with fail
          refine C.mono ?_
          rintro x v305 ⟨rfl, hs⟩
          have Hv305 := Lib.hid (hs)
          clear C Hv304
          clear hs
          go_wp2_with fail
          exact ⟨⟨3, by omega, by first | rfl | trivial | go_num, Hv305.out⟩, by simp [intOf]⟩
    · have C := early_sit HSIT.out (by show (syncP 2 7#32).l.length ≤ 5; decide)
      go_wp2_with fail
      refine C.mono ?_
      rintro x v501 ⟨B9, m9, d9, rfl, _, hs⟩
      have Hv501 := Lib.hid hs
      clear C hs HSIT
      have HT := St.nil v501 noF
      go_upto_region 22 with (first | ((with_reducible refine wpList_plain ?_ ?_); exact rfl; intro KK hKK; refine wp_st_alloc HT 30 (pktA 0 0#32 0#32 (.slice none 0 0)) rfl (.agg (pktA 0 0#32 0#32 (.slice none 0 0))) (by kernel_rfl) (rfl) (fun g8 W5021 HSx => hKK _ _ ?_); clear hKK KK HT; have HT : St v501 noF [⟨g8, 30, pktA 0 0#32 0#32 (.slice none 0 0)⟩] W5021 := HSx; clear HSx) | ((with_reducible refine wpList_plain ?_ ?_); exact rfl; intro KK hKK; refine wp_st_store HT 0 0 30 (.tmp 8) (.tmp 77) rfl rfl rfl (.agg (pktA (syncP 2 7#32).k (syncP 2 7#32).e (syncP 2 7#32).s (.slice B9 m9 d9))) rfl (by exact size_pkt) (Nat.le_refl 4) (pkt_one ..) (pktA (syncP 2 7#32).k (syncP 2 7#32).e (syncP 2 7#32).s (.slice B9 m9 d9)) (by exact spl_agg _ _ _ rfl rfl) (fun W5022 HSx => hKK _ _ ?_); clear hKK KK HT; have HT : St v501 noF [⟨g8, 30, pktA (syncP 2 7#32).k (syncP 2 7#32).e (syncP 2 7#32).s (.slice B9 m9 d9)⟩] W5022 := HSx; clear HSx))
      have Hv502 := Lib.hid (Hv501.out.call HT.below)
      have c2 : W5022.cell? ⟨g8, 2, none⟩ = some (.int .u32 (wd (syncP 2 7#32).s)) := (HT.row 0 rfl).get rfl
      clear HT Hv501
      go_wp2_with fail
      refine (sndwakes_any _).mono ?_
      rintro x w99 ⟨rfl, hb9⟩
      go_wp2_with fail
      go_ret
      exact ⟨rfl, HB0.out.trans ((Hv502.out.2.1.trans (hb9.mono Hv502.out.2.1.size)).mono HB0.out.size)⟩
end Go.Proofs.Ytppbgkdkioldbaa
