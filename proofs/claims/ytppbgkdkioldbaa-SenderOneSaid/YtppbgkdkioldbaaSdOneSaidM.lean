/- SenderOne: for every array of two bytes, number of thirty-two bits and slice of bytes the call returns true and changes nothing that it was handed. Conditions: those of the row. -/
import Derived.Test.YtppbgkdkioldbaaRows
import Derived.Test.YtppbgkdkioldbaaMWal0
import Derived.Test.YtppbgkdkioldbaaMLabel0
import Derived.Test.YtppbgkdkioldbaaMGen1
import Derived.Test.YtppbgkdkioldbaaMGen0
/- The statement SenderOne: its walk. -/
set_option maxRecDepth 4000
namespace Go.Proofs.Ytppbgkdkioldbaa
open Go Go.RowKit
theorem early_sit_b {w W : World} {g : Nat} {S : Snd} (h : Sit w W g S) (hlo : S.p.l.length ≤ 5) (b : Bool) (hb : decide (S.p.k ≠ 0) = b) :
    Calls Try.prog 22 #[.pointer (some ⟨g, 0, none⟩)] W fun x W' => ∃ B9 m9 d9, x = .returned (.tuple #[.agg (pktA S.p.k S.p.e S.p.s (.slice B9 m9 d9)), .bool b]) ∧ PutsAt W' (.slice B9 m9 d9) S.p.l ∧ Sit w W' g S := by
  subst hb
  exact early_sit h hlo
theorem out_sit_b {w W : World} {g : Nat} {S : Snd} (h : Sit w W g S) (hlo : S.o.l.length ≤ 5) (b : Bool) (hb : decide (S.o.k ≠ 0) = b) :
    Calls Try.prog 21 #[.pointer (some ⟨g, 0, none⟩)] W fun x W' => ∃ B9 m9 d9, x = .returned (.tuple #[.agg (pktA S.o.k S.o.e S.o.s (.slice B9 m9 d9)), .bool b]) ∧ PutsAt W' (.slice B9 m9 d9) S.o.l ∧ Sit w W' g S := by
  subst hb
  exact out_sit h hlo
theorem good_one : ∀ a : Fin 12, goodB [(a.val : Int)] = true := by decide +kernel
theorem op_sync (a : Nat) (s : BitVec 32) (h : a < 12) : opB (syncP (a : Int) s) = true := by
  unfold opB mayP syncP
  rw [decide_eq_true (.inr rfl), Bool.true_and, if_pos (.inr rfl)]
  exact good_one ⟨a, h⟩
theorem se_ok {S : Snd} {p : Pkt} (h : opB p = true) (h0 : S.o.k = 0) : sendE S p = 0 := by unfold sendE; rw [if_pos h, if_pos h0]
theorem ss_ok {S : Snd} {p : Pkt} (h : opB p = true) (h0 : S.o.k = 0) : sendS S p = ⟨p, S.p, 0, false⟩ := if_pos ⟨h, h0⟩
theorem se_full {S : Snd} {p : Pkt} (h : opB p = true) (h0 : S.o.k ≠ 0) : sendE S p = 19 := by unfold sendE; rw [if_pos h, if_neg h0]
theorem ss_full {S : Snd} {p : Pkt} (h0 : S.o.k ≠ 0) : sendS S p = S := if_neg (fun h => h0 h.2)
theorem ack_k {S : Snd} {y : Pkt} (h : y.k ≠ 3) : ackB S y = false := by unfold ackB; rw [decide_eq_false h]; simp
theorem ack_e {S : Snd} {y : Pkt} (h : y.e ≠ S.o.e) : ackB S y = false := by unfold ackB; rw [decide_eq_false h]; simp
theorem ack_0 {S : Snd} {y : Pkt} (h : S.o.k = 0) : ackB S y = false := by unfold ackB; rw [decide_eq_false (by simp [h])]; simp
theorem ack_y {S : Snd} {y : Pkt} (h0 : S.o.k ≠ 0) (h1 : y.k = 3) (h2 : y.e = S.o.e) (h3 : y.s = S.o.s) : ackB S y = true := by unfold ackB; rw [decide_eq_true h0, decide_eq_true h1, decide_eq_true h2, decide_eq_true h3]; rfl
theorem acks_no {S : Snd} {y : Pkt} (h : ackB S y = false) : ackS S y = S := by unfold ackS; rw [h]; exact if_neg (fun h => by cases h)
theorem acks_y {S : Snd} {y : Pkt} (h : ackB S y = true) : ackS S y = stopS S true := by unfold ackS; rw [h]; exact if_pos rfl
theorem stop_yes {S : Snd} (h : S.o.k ≠ 0) : stopS S true = ⟨pkt0, S.o, 0, false⟩ := by unfold stopS; rw [if_pos rfl, if_neg h]
theorem miss_n {S : Snd} (h : S.o.k ≠ 0) : missN S = S.n + 1 := if_neg h
theorem miss_s {S : Snd} (h : S.o.k ≠ 0) : missS S = ⟨S.o, S.p, S.n + 1, S.t⟩ := if_neg h
theorem bit_meet : ∀ a k : Fin 12, (bitsOf [(k.val : Int)] &&& bitsOf [(a.val : Int)] ≠ 0#16) ↔ k.val = a.val := by decide +kernel
theorem touch_bit (a k : Nat) (s : BitVec 32) (tb : Bool) (ha : a < 12) (hk : k < 12) : touchS ⟨syncP (a : Int) s, pkt0, 0, tb⟩ [((k : Int), zer 32)] = ⟨syncP (a : Int) s, pkt0, 0, if k = a then true else tb⟩ := by
  have h := bit_meet ⟨a, ha⟩ ⟨k, hk⟩
  simp only at h
  have hB : touchB ⟨syncP (a : Int) s, pkt0, 0, tb⟩ [((k : Int), zer 32)] = decide (k = a) := by
    unfold touchB
    show (decide ((2 : Int) = 2) && decide (bitsOf [(k : Int)] &&& bitsOf [(a : Int)] ≠ 0#16)) = decide (k = a)
    rw [decide_eq_true (show (2 : Int) = 2 from rfl), Bool.true_and]
    exact decide_eq_decide.2 h
  unfold touchS
  rw [hB]
  by_cases e : k = a
  · rw [decide_eq_true e, if_pos rfl, if_pos e]
  · rw [decide_eq_false e, if_neg (fun h => by cases h), if_neg e]
theorem u32_succ (s : BitVec 32) : IntKind.u32.wrap (wd s + 1) = wd (s + 1#32) := by
  rw [IntKind.wrap_u32']; unfold wd; rw [BitVec.toNat_add]; simp
set_option maxRecDepth 20000 in
set_option maxHeartbeats 6400000 in
theorem sdone_walk (q : List (BitVec 8)) (s : BitVec 32) (A : Option Addr) (c : Nat) (t : List (BitVec 8)) (w : World) (hq : q.length = 2) (hs : Slice w (.slice A t.length c) t) :
    Calls Try.prog 4 #[.agg (bs q), .int .u32 (wd s), .slice A t.length c] w fun e w' => e = .returned (.bool true) ∧ Below w.heap.size w w' := by
  obtain ⟨n, hn⟩ : ∃ n, t.length = n := ⟨_, rfl⟩
  rw [hn] at hs ⊢
  have HN := Lib.hid hn
  have HSL := Lib.hid hs
  have HQ := Lib.hid hq
  clear hn hs hq
  have HS := St.nil w noF
  by_cases hbig : 50 < n
  · have hd : decide (50 < (n : Int)) = true := decide_eq_true (by omega)
    clear hbig
    go_enter Try.func4, Try.ntmps4
    go_upto_region 1 with (first | ((with_reducible refine wpList_plain ?_ ?_); exact rfl; intro KK hKK; refine wp_st_box HS 55 (.tmp 0) rfl _ rfl (bs q) (rfl) (fun g3 W1 HSx => hKK _ _ ?_); clear hKK KK HS; have HS : St w noF [⟨g3, 55, bs q⟩] W1 := HSx; clear HSx))
    have HB0 := Lib.hid HS.below
    clear HS
    go_wp2_with fail
    refine (sndwakes_any _).mono ?_
    rintro x w99 ⟨rfl, hb9⟩
    go_wp2_with fail
    go_ret
    exact ⟨rfl, HB0.out.trans (hb9.mono HB0.out.size)⟩
  have hd : decide (50 < (n : Int)) = false := decide_eq_false (by omega)
  have HN50 : Hid (n ≤ 50) := Lib.hid (by omega)
  clear hbig
  go_enter Try.func4, Try.ntmps4
  go_upto_region 1 with (first | ((with_reducible refine wpList_plain ?_ ?_); exact rfl; intro KK hKK; refine wp_st_box HS 55 (.tmp 0) rfl _ rfl (bs q) (rfl) (fun g3 W1 HSx => hKK _ _ ?_); clear hKK KK HS; have HS : St w noF [⟨g3, 55, bs q⟩] W1 := HSx; clear HSx))
  have HB0 := Lib.hid HS.below
  have HR1 := Lib.hid (HS.row 0 rfl)
  have HC1 : Hid (∀ k, k < 2 → ∀ W, Below W1.heap.size W1 W → W.cell? ⟨g3, k, none⟩ = some (.int .u8 (bd (q.getD k 0#8)))) := Lib.hid fun k hk W hb => (HR1.out.call hb).get (by
    simp only [bs]
    rw [List.getElem?_toArray, List.getElem?_map, List.getD_eq_getElem?_getD, List.getElem?_eq_getElem (by rw [HQ.out]; exact hk)]
    rfl)
  clear HS HR1
  obtain ⟨ya, hya⟩ : ∃ y, q.getD 0 0#8 = y := ⟨_, rfl⟩
  obtain ⟨yb, hyb⟩ : ∃ y, q.getD 1 0#8 = y := ⟨_, rfl⟩
  have HCa : Hid (∀ W, Below W1.heap.size W1 W → W.cell? ⟨g3, 0, none⟩ = some (.int .u8 (bd ya))) := Lib.hid fun W hb => by rw [← hya]; exact HC1.out 0 (by decide) W hb
  have HCb : Hid (∀ W, Below W1.heap.size W1 W → W.cell? ⟨g3, 1, none⟩ = some (.int .u8 (bd yb))) := Lib.hid fun W hb => by rw [← hyb]; exact HC1.out 1 (by decide) W hb
  have HWa : Hid (IntKind.i64.wrap (bd ya) = bd ya) := Lib.hid (by have := bd_lo ya; have := bd_hi ya; rw [IntKind.wrap_i64]; omega)
  have HWb : Hid (IntKind.i64.wrap (bd yb) = bd yb) := Lib.hid (by have := bd_lo yb; have := bd_hi yb; rw [IntKind.wrap_i64]; omega)
  obtain ⟨va, ha⟩ : ∃ va : Nat, (bd ya).tmod 12 = va := ⟨((bd ya).tmod 12).toNat, by have := bd_lo ya; rw [Int.tmod_eq_emod_of_nonneg (by omega)]; omega⟩
  obtain ⟨vb, hb⟩ : ∃ vb : Nat, (bd yb).tmod 12 = vb := ⟨((bd yb).tmod 12).toNat, by have := bd_lo yb; rw [Int.tmod_eq_emod_of_nonneg (by omega)]; omega⟩
  have HA12 : Hid (va < 12) := Lib.hid (by have := bd_lo ya; rw [Int.tmod_eq_emod_of_nonneg (by omega)] at ha; omega)
  have HB12 : Hid (vb < 12) := Lib.hid (by have := bd_lo yb; rw [Int.tmod_eq_emod_of_nonneg (by omega)] at hb; omega)
  have HMa := Lib.hid ha
  have HMb := Lib.hid hb
  have HOA := Lib.hid (op_sync va s HA12.out)
  have HOB := Lib.hid (op_sync vb (s + 1#32) HB12.out)
  have HWS : Hid (IntKind.u32.wrap (wd s + 1) = wd (s + 1#32)) := Lib.hid (u32_succ s)
  clear hya hyb ha hb HC1
  have H0 := Lib.hid (sit_new W1 W1 (Below.refl _ _) #[.int .i64 0, .int .u32 0, .int .u32 0, .slice none 0 0, .int .i64 0, .int .u32 0, .int .u32 0, .slice none 0 0, .int .i64 0, .bool false] rfl)
  go_upto_region 4 with fail
  clear hd
  have hF0 : Wl [(fun W => Sit W1 W W1.heap.size snd0)] 0 (World.drew _) := H0.out.call (Below.refl _ _).drew
  clear H0
  refine wp_region_phs [is (.pointer (some ⟨g3, 0, none⟩)), is (.int .u8 (bd ya)), is (.int .i64 (bd ya)), is (.int .i64 (va : Int)), is (.pointer (some ⟨g3, 1, none⟩)), is (.int .u8 (bd yb)), is (.int .i64 (bd yb)), is (.int .i64 (vb : Int)), is (.int .i64 (va : Int)), is (.int .i64 (vb : Int))] [true, true, true, true, true, true, true, true, true, true] [(fun W => Sit W1 W W1.heap.size snd0)] [false, false, false, false, false, false, false, false, false, false] [some 0, some 0, some 0, some 0, some 0, some 0, some 0, some 0, some 0, some 0] [some 31, some 32, some 33, some 34, some 35, some 36, some 37, some 38, some 8, some 9] 10 0 (fun _ => true) rfl rfl (by kernel_rfl) (by kernel_rfl) (by kernel_rfl) (by kernel_rfl) ?_ ?_ ?_ ?_ ?_ ?_
  · repeat first | exact wok_nil | refine wok_cons (by first | exact fun _ _ h k => h.call k) ?_
  · repeat first | exact vok_nil | refine vok_rig (by first | exact fun _ _ _ h => h) ?_ | refine vok_soft (by first | exact fun _ _ _ h _ => h) ?_
  · exact hF0
  · repeat first | exact all_end (by decide) | refine all_cons (by first | exact rfl | exact ⟨rfl, fun _ _ h => Or.inl h⟩ | exact ⟨rfl, fun _ _ h => Or.inr ⟨h, rfl⟩⟩) ?_
  · refine allp_mild 0 rfl rfl rfl (fun a x_ W hout hin hP => ?_) ?_
    · have e3 : a.tmps[3]? = some (.pointer (some ⟨g3, 0, none⟩)) := (hout 3 (by kernel_rfl)).trans rfl
      clear hP
      clear hin hout
      intro K Q hK
      go_simp
      exact hK _ _ ⟨Same.refl _, rfl⟩
    refine allp_mild 0 rfl rfl rfl (fun a x_ W hout hin hP => ?_) ?_
    · have e31 := hin.is 0 31 (by kernel_rfl) (by decide) (by kernel_rfl) (by kernel_rfl) _ rfl
      have hc := HCa.out W hP.2.1
      clear hP
      clear hin hout
      intro K Q hK
      go_simp
      exact hK _ _ ⟨Same.refl _, rfl⟩
    refine allp_mild 0 rfl rfl rfl (fun a x_ W hout hin hP => ?_) ?_
    · have e32 := hin.is 1 32 (by kernel_rfl) (by decide) (by kernel_rfl) (by kernel_rfl) _ rfl
      have hw := HWa.out
      clear hP
      clear hin hout
      intro K Q hK
      go_simp
      exact hK _ _ ⟨Same.refl _, rfl⟩
    refine allp_mild 0 rfl rfl rfl (fun a x_ W hout hin hP => ?_) ?_
    · have e33 := hin.is 2 33 (by kernel_rfl) (by decide) (by kernel_rfl) (by kernel_rfl) _ rfl
      have hm := HMa.out
      clear hP
      clear hin hout
      intro K Q hK
      go_simp
      exact hK _ _ ⟨Same.refl _, rfl⟩
    refine allp_mild 0 rfl rfl rfl (fun a x_ W hout hin hP => ?_) ?_
    · have e3 : a.tmps[3]? = some (.pointer (some ⟨g3, 0, none⟩)) := (hout 3 (by kernel_rfl)).trans rfl
      clear hP
      clear hin hout
      intro K Q hK
      go_simp
      exact hK _ _ ⟨Same.refl _, rfl⟩
    refine allp_mild 0 rfl rfl rfl (fun a x_ W hout hin hP => ?_) ?_
    · have e35 := hin.is 4 35 (by kernel_rfl) (by decide) (by kernel_rfl) (by kernel_rfl) _ rfl
      have hc := HCb.out W hP.2.1
      clear hP
      clear hin hout
      intro K Q hK
      go_simp
      exact hK _ _ ⟨Same.refl _, rfl⟩
    refine allp_mild 0 rfl rfl rfl (fun a x_ W hout hin hP => ?_) ?_
    · have e36 := hin.is 5 36 (by kernel_rfl) (by decide) (by kernel_rfl) (by kernel_rfl) _ rfl
      have hw := HWb.out
      clear hP
      clear hin hout
      intro K Q hK
      go_simp
      exact hK _ _ ⟨Same.refl _, rfl⟩
    refine allp_mild 0 rfl rfl rfl (fun a x_ W hout hin hP => ?_) ?_
    · have e37 := hin.is 6 37 (by kernel_rfl) (by decide) (by kernel_rfl) (by kernel_rfl) _ rfl
      have hm := HMb.out
      clear hP
      clear hin hout
      intro K Q hK
      go_simp
      exact hK _ _ ⟨Same.refl _, rfl⟩
    refine allp_mild 0 rfl rfl rfl (fun a x_ W hout hin hP => ?_) ?_
    · have e34 := hin.is 3 34 (by kernel_rfl) (by decide) (by kernel_rfl) (by kernel_rfl) _ rfl
      exact does_assign rfl e34 ⟨Same.refl _, rfl⟩
    refine allp_mild 0 rfl rfl rfl (fun a x_ W hout hin hP => ?_) ?_
    · have e38 := hin.is 7 38 (by kernel_rfl) (by decide) (by kernel_rfl) (by kernel_rfl) _ rfl
      exact does_assign rfl e38 ⟨Same.refl _, rfl⟩
    exact all_end (by decide)
  · intro x_ W hP hV
    have h8 : x_ 8 = .int .i64 (va : Int) := hV 8 (by decide) (.inl (by kernel_rfl))
    have h9 : x_ 9 = .int .i64 (vb : Int) := hV 9 (by decide) (.inl (by kernel_rfl))
    have HZ0 := Lib.hid hP
    clear hP hV
    simp only [putL, Act.put, List.setIfInBounds_toArray, List.set_cons_succ, List.set_cons_zero, h8, h9]
    refine wpAnyH_done (by kernel_rfl) ?_ _
    clear h8 h9
    have hws := HWS.out
    have C := sync_any (va : Int) (s) W (by have := HA12.out; omega)
    go_wp2_with fail
    refine C.mono ?_
    rintro x z1 ⟨B, m, d, rfl, hp, hb⟩
    have Hz1 := Lib.hid (HZ0.out.call hb)
    clear C hb HZ0
    have C := send_sit Hz1.out (syncP (va : Int) s) B m d hp (by show 1 ≤ maxLen; decide)
    rw [se_ok HOA.out rfl, ss_ok HOA.out rfl] at C
    go_wp2_with fail
    refine C.mono ?_
    rintro x z2 ⟨rfl, hs⟩
    have Hz2 := Lib.hid hs
    clear C hs Hz1 hp
    have C := sync_any (vb : Int) (s + 1#32) z2 (by have := HB12.out; omega)
    go_wp2_with fail
    refine C.mono ?_
    rintro x z3 ⟨B, m, d, rfl, hp, hb⟩
    have Hz3 := Lib.hid (Hz2.out.call hb)
    clear C hb Hz2
    have C := send_sit Hz3.out (syncP (vb : Int) (s + 1#32)) B m d hp (by show 1 ≤ maxLen; decide)
    rw [se_full HOB.out (show (2 : Int) ≠ 0 by decide), ss_full (show (2 : Int) ≠ 0 by decide)] at C
    go_wp2_with fail
    refine C.mono ?_
    rintro x z4 ⟨rfl, hs⟩
    have Hz4 := Lib.hid hs
    clear C hs Hz3 hp
    go_wp2_with fail
    go_loopw [10, 11] (fun v i wr => ∃ (j : Nat) (tb : Bool), j ≤ n ∧ i = .int .i64 j ∧ v = .bool tb ∧ Sit W1 wr W1.heap.size ⟨(syncP (va : Int) s), pkt0, 0, tb⟩) (fun _ i _ => n - (intOf i).toNat)
    case atStart => exact ⟨0, false, by omega, rfl, rfl, Hz4.out⟩
    case round =>
      obtain ⟨j, tb, hj, rfl, rfl, hs⟩ := hrel
      have HJ := Lib.hid hs
      clear hs Hz4
      have hn50 := HN50.out
      by_cases hlt : j < n
      · obtain ⟨gb, ob, hA, hba, _⟩ := slice_bat HSL.out (by rw [HN.out]; omega)
        subst hA
        obtain ⟨y, hy⟩ : ∃ y, t.getD j 0#8 = y := ⟨_, rfl⟩
        obtain ⟨O, hOj⟩ : ∃ O, ob + j = O := ⟨_, rfl⟩
        have hcell : wr.cell? ⟨gb, O, none⟩ = some (.int .u8 (bd y)) := by
          have h := hba.get j (by rw [HN.out]; exact hlt)
          rw [hy, hOj] at h
          exact ((HB0.out.trans (HJ.out.2.1.mono HB0.out.size)).cell (p := ⟨gb, O, none⟩) hba.lt).trans h
        obtain ⟨kk, hkk⟩ : ∃ kk : Nat, (bd y).tmod 12 = kk := ⟨((bd y).tmod 12).toNat, by have := bd_lo y; rw [Int.tmod_eq_emod_of_nonneg (by omega)]; omega⟩
        have hk12 : kk < 12 := by have := bd_lo y; rw [Int.tmod_eq_emod_of_nonneg (by omega)] at hkk; omega
        have hwy : IntKind.i64.wrap (bd y) = bd y := by have := bd_lo y; have := bd_hi y; rw [IntKind.wrap_i64]; omega
        have hj0 : (0 : Int) ≤ (j : Int) := by omega
        have hj1 : (j : Int) < (n : Int) := by omega
        have HP := Lib.hid (put_fresh wr (kk : Int) (by omega))
        have HSx := Lib.hid (HJ.out.call ((Below.refl _ _).alloc (Nat.le_refl _) (.cells #[.int .i64 (kk : Int), .int .u8 0, .int .u8 0, .int .u8 0, .int .u8 0, .int .u8 0, .int .u8 0, .int .u8 0, .int .u8 0, .int .u8 0, .int .u8 0, .int .u8 0, .int .u8 0, .int .u8 0, .int .u8 0, .int .u8 0, .int .u8 0, .int .u8 0, .int .u8 0, .int .u8 0, .int .u8 0, .int .u8 0, .int .u8 0, .int .u8 0, .int .u8 0, .int .u8 0, .int .u8 0, .int .u8 0, .int .u8 0, .int .u8 0, .int .u8 0, .int .u8 0, .int .u8 0] 61)))
        have C := touch_sit HSx.out [((kk : Int), zer 32)] _ 1 1 (.inr HOA.out) HP.out (by show 1 ≤ 1000000; decide)
        rw [touch_bit va kk s tb HA12.out hk12] at C
        clear hy hba
        go_wp2_with fail
        refine C.mono ?_
        rintro x w30 ⟨rfl, hs⟩
        have H30 := Lib.hid hs
        clear C hs HJ HSx HP hcell
        cases tb with
        | true =>
          have H31 : Hid (Sit W1 w30 W1.heap.size ⟨(syncP (va : Int) s), pkt0, 0, true⟩) := Lib.hid (by have := H30.out; rwa [show (if kk = va then true else true) = true by split <;> rfl] at this)
          clear H30
          go_wp2_with fail
          exact ⟨⟨j + 1, true, by omega, by go_num, by first | rfl | trivial, H31.out⟩, by simp [intOf]; omega⟩
        | false =>
          by_cases hka : kk = va
          · have H31 : Hid (Sit W1 w30 W1.heap.size ⟨(syncP (va : Int) s), pkt0, 0, true⟩) := Lib.hid (by have := H30.out; rwa [if_pos hka] at this)
            have hki : (kk : Int) = (va : Int) := by omega
            clear H30
            go_wp2_with fail
            exact ⟨⟨j + 1, true, by omega, by go_num, by first | rfl | trivial | (simp [hka]), H31.out⟩, by simp [intOf]; omega⟩
          · have H31 : Hid (Sit W1 w30 W1.heap.size ⟨(syncP (va : Int) s), pkt0, 0, false⟩) := Lib.hid (by have := H30.out; rwa [if_neg hka] at this)
            have hki : ((kk : Int) == (va : Int)) = false := by simp; omega
            clear H30
            go_wp2_with fail
            exact ⟨⟨j + 1, false, by omega, by go_num, by first | rfl | trivial | (simp [hka]), H31.out⟩, by simp [intOf]; omega⟩
      · obtain rfl : j = n := by omega
        have hj1 : ¬ ((j : Int) < (j : Int)) := by omega
        have C := acked_sit HJ.out ⟨4, 1#32, s, []⟩ (.slice none 0 0)
        rw [ack_k (S := ⟨(syncP (va : Int) s), pkt0, 0, tb⟩) (y := ⟨4, 1#32, s, []⟩) (show (4 : Int) ≠ 3 by decide), acks_no (ack_k (S := ⟨(syncP (va : Int) s), pkt0, 0, tb⟩) (y := ⟨4, 1#32, s, []⟩) (show (4 : Int) ≠ 3 by decide))] at C
        go_wp2_with fail
        refine C.mono ?_
        rintro x z5 ⟨rfl, hs⟩
        have Hz5 := Lib.hid hs
        clear C hs HJ
        have C := acked_sit Hz5.out ⟨3, 2#32, s, []⟩ (.slice none 0 0)
        rw [ack_e (S := ⟨(syncP (va : Int) s), pkt0, 0, tb⟩) (y := ⟨3, 2#32, s, []⟩) (show (2#32) ≠ 1#32 by decide), acks_no (ack_e (S := ⟨(syncP (va : Int) s), pkt0, 0, tb⟩) (y := ⟨3, 2#32, s, []⟩) (show (2#32) ≠ 1#32 by decide))] at C
        go_wp2_with fail
        refine C.mono ?_
        rintro x z6 ⟨rfl, hs⟩
        have Hz6 := Lib.hid hs
        clear C hs Hz5
        have C := acked_sit Hz6.out ⟨3, 1#32, s, []⟩ (.slice none 0 0)
        rw [ack_y (S := ⟨(syncP (va : Int) s), pkt0, 0, tb⟩) (y := ⟨3, 1#32, s, []⟩) (show (2 : Int) ≠ 0 by decide) rfl rfl rfl, acks_y (ack_y (S := ⟨(syncP (va : Int) s), pkt0, 0, tb⟩) (y := ⟨3, 1#32, s, []⟩) (show (2 : Int) ≠ 0 by decide) rfl rfl rfl), stop_yes (S := ⟨(syncP (va : Int) s), pkt0, 0, tb⟩) (show (2 : Int) ≠ 0 by decide)] at C
        go_wp2_with fail
        refine C.mono ?_
        rintro x z7 ⟨rfl, hs⟩
        have Hz7 := Lib.hid hs
        clear C hs Hz6
        have C := acked_sit Hz7.out ⟨3, 1#32, s, []⟩ (.slice none 0 0)
        rw [ack_0 (S := ⟨pkt0, (syncP (va : Int) s), 0, false⟩) (y := ⟨3, 1#32, s, []⟩) rfl, acks_no (ack_0 (S := ⟨pkt0, (syncP (va : Int) s), 0, false⟩) (y := ⟨3, 1#32, s, []⟩) rfl)] at C
        go_wp2_with fail
        refine C.mono ?_
        rintro x z8 ⟨rfl, hs⟩
        have Hz8 := Lib.hid hs
        clear C hs Hz7
        have C := early_sit_b Hz8.out (Nat.le_of_ble_eq_true rfl) true rfl
        go_wp2_with fail
        refine C.mono ?_
        rintro x z9 ⟨B9, m9, d9, rfl, _, hs⟩
        have Hz9 := Lib.hid hs
        clear C hs Hz8
        have HT := St.nil z9 noF
        go_upto_region 23 with (first | ((with_reducible refine wpList_plain ?_ ?_); exact rfl; intro KK hKK; refine wp_st_alloc HT 30 (pktA 0 0#32 0#32 (.slice none 0 0)) rfl (.agg (pktA 0 0#32 0#32 (.slice none 0 0))) (by kernel_rfl) (rfl) (fun g21 W201 HSx => hKK _ _ ?_); clear hKK KK HT; have HT : St z9 noF [⟨g21, 30, pktA 0 0#32 0#32 (.slice none 0 0)⟩] W201 := HSx; clear HSx) | ((with_reducible refine wpList_plain ?_ ?_); exact rfl; intro KK hKK; refine wp_st_store HT 0 0 30 (.tmp 21) (.tmp 110) rfl rfl rfl (.agg (pktA (syncP (va : Int) s).k (syncP (va : Int) s).e (syncP (va : Int) s).s (.slice B9 m9 d9))) rfl (by exact size_pkt) (Nat.le_refl 4) (pkt_one ..) (pktA (syncP (va : Int) s).k (syncP (va : Int) s).e (syncP (va : Int) s).s (.slice B9 m9 d9)) (by exact spl_agg _ _ _ rfl rfl) (fun W202 HSx => hKK _ _ ?_); clear hKK KK HT; have HT : St z9 noF [⟨g21, 30, pktA (syncP (va : Int) s).k (syncP (va : Int) s).e (syncP (va : Int) s).s (.slice B9 m9 d9)⟩] W202 := HSx; clear HSx))
        have Hz10 := Lib.hid (Hz9.out.call HT.below)
        have c2 : W202.cell? ⟨g21, 2, none⟩ = some (.int .u32 (wd (syncP (va : Int) s).s)) := (HT.row 0 rfl).get rfl
        clear HT Hz9
        have hws := HWS.out
        cases tb
        all_goals
          have C := missed_sit Hz10.out (by show 0 ≤ (0 : Int) ∧ (0 : Int) ≤ 1000000; decide)
          rw [show missN ⟨pkt0, (syncP (va : Int) s), 0, false⟩ = 0 from rfl, show missS ⟨pkt0, (syncP (va : Int) s), 0, false⟩ = ⟨pkt0, (syncP (va : Int) s), 0, false⟩ from rfl] at C
          go_wp2_with fail
          refine C.mono ?_
          rintro x z11 ⟨rfl, hs⟩
          have Hz11 := Lib.hid hs
          clear C hs Hz10
          have C := sync_any (vb : Int) (s + 1#32) z11 (by have := HB12.out; omega)
          go_wp2_with fail
          refine C.mono ?_
          rintro x z12 ⟨B, m, d, rfl, hp, hb⟩
          have Hz12 := Lib.hid (Hz11.out.call hb)
          clear C hb Hz11
          have C := send_sit Hz12.out (syncP (vb : Int) (s + 1#32)) B m d hp (by show 1 ≤ maxLen; decide)
          rw [se_ok (S := ⟨pkt0, (syncP (va : Int) s), 0, false⟩) HOB.out rfl, ss_ok (S := ⟨pkt0, (syncP (va : Int) s), 0, false⟩) HOB.out rfl] at C
          go_wp2_with fail
          refine C.mono ?_
          rintro x z13 ⟨rfl, hs⟩
          have Hz13 := Lib.hid hs
          clear C hs Hz12 hp
          have C := missed_sit Hz13.out (by show 0 ≤ (0 : Int) ∧ (0 : Int) ≤ 1000000; decide)
          rw [miss_n (S := ⟨(syncP (vb : Int) (s + 1#32)), (syncP (va : Int) s), 0, false⟩) (show (2 : Int) ≠ 0 by decide), miss_s (S := ⟨(syncP (vb : Int) (s + 1#32)), (syncP (va : Int) s), 0, false⟩) (show (2 : Int) ≠ 0 by decide)] at C
          go_wp2_with fail
          refine C.mono ?_
          rintro x z14 ⟨rfl, hs⟩
          have Hz14 := Lib.hid hs
          clear C hs Hz13
          have C := missed_sit Hz14.out (by show 0 ≤ (1 : Int) ∧ (1 : Int) ≤ 1000000; decide)
          rw [miss_n (S := ⟨(syncP (vb : Int) (s + 1#32)), (syncP (va : Int) s), 0 + 1, false⟩) (show (2 : Int) ≠ 0 by decide), miss_s (S := ⟨(syncP (vb : Int) (s + 1#32)), (syncP (va : Int) s), 0 + 1, false⟩) (show (2 : Int) ≠ 0 by decide)] at C
          go_wp2_with fail
          refine C.mono ?_
          rintro x z15 ⟨rfl, hs⟩
          have Hz15 := Lib.hid hs
          clear C hs Hz14
          have C := stop_sit Hz15.out false
          rw [show stopS ⟨(syncP (vb : Int) (s + 1#32)), (syncP (va : Int) s), 0 + 1 + 1, false⟩ false = ⟨pkt0, pkt0, 0, false⟩ from rfl] at C
          go_wp2_with fail
          refine C.mono ?_
          rintro x z16 ⟨rfl, hs⟩
          have Hz16 := Lib.hid hs
          clear C hs Hz15
          have C := out_sit_b Hz16.out (Nat.le_of_ble_eq_true rfl) false rfl
          go_wp2_with fail
          refine C.mono ?_
          rintro x z17 ⟨B9, m9, d9, rfl, _, hs⟩
          have Hz17 := Lib.hid hs
          clear C hs Hz16
          have HT := St.nil z17 noF
          go_upto_region 29 with (first | ((with_reducible refine wpList_plain ?_ ?_); exact rfl; intro KK hKK; refine wp_st_alloc HT 30 (pktA 0 0#32 0#32 (.slice none 0 0)) rfl (.agg (pktA 0 0#32 0#32 (.slice none 0 0))) (by kernel_rfl) (rfl) (fun g23 W281 HSx => hKK _ _ ?_); clear hKK KK HT; have HT : St z17 noF [⟨g23, 30, pktA 0 0#32 0#32 (.slice none 0 0)⟩] W281 := HSx; clear HSx) | ((with_reducible refine wpList_plain ?_ ?_); exact rfl; intro KK hKK; refine wp_st_store HT 0 0 30 (.tmp 23) (.tmp 159) rfl rfl rfl (.agg (pktA (pkt0).k (pkt0).e (pkt0).s (.slice B9 m9 d9))) rfl (by exact size_pkt) (Nat.le_refl 4) (pkt_one ..) (pktA (pkt0).k (pkt0).e (pkt0).s (.slice B9 m9 d9)) (by exact spl_agg _ _ _ rfl rfl) (fun W282 HSx => hKK _ _ ?_); clear hKK KK HT; have HT : St z17 noF [⟨g23, 30, pktA (pkt0).k (pkt0).e (pkt0).s (.slice B9 m9 d9)⟩] W282 := HSx; clear HSx))
          have Hz18 := Lib.hid (Hz17.out.call HT.below)
          clear HT Hz17
          have C := early_sit_b Hz18.out (Nat.le_of_ble_eq_true rfl) false rfl
          go_wp2_with fail
          refine C.mono ?_
          rintro x z19 ⟨B9, m9, d9, rfl, _, hs⟩
          have Hz19 := Lib.hid hs
          clear C hs Hz18
          go_wp2_with fail
          refine (sndwakes_any _).mono ?_
          rintro x w99 ⟨rfl, hb9⟩
          go_wp2_with fail
          go_ret
          exact ⟨rfl, HB0.out.trans ((Hz19.out.2.1.trans (hb9.mono Hz19.out.2.1.size)).mono HB0.out.size)⟩
theorem sdone_n (q : List (BitVec 8)) (n : Int) (A : Option Addr) (c : Nat) (t : List (BitVec 8)) (w : World) (hq : q.length = 2) (hn : (Lit.int .u32 n).wf = true) (hs : Slice w (.slice A t.length c) t) (_ : A = none → c = 0) (_ : t.length ≤ maxLen) :
    Calls Try.prog 4 #[.agg (bs q), .int .u32 n, .slice A t.length c] w fun e w' => e = .returned (.bool true) ∧ Below w.heap.size w w' := by
  obtain ⟨m, rfl, hm⟩ := nat_u32 hn
  have e : (m : Int) = wd (BitVec.ofNat 32 m) := by unfold wd; rw [BitVec.toNat_ofNat]; omega
  rw [e]
  exact sdone_walk q _ A c t w hq hs
end Go.Proofs.Ytppbgkdkioldbaa

/- SenderOne: for every array of two bytes, number of thirty-two bits and slice of bytes the call returns true and changes nothing that it was handed. Conditions: those of the row. -/
set_option maxRecDepth 4000
namespace Go.Proofs.Ytppbgkdkioldbaa.senderOne
open Go Go.ChangeShapes Go.WideShapes Go.ChangeAt Go.RowKit

theorem contract (H : Type) (enc : TypeId × Value → H) (W : World) (base : Nat) (args : Array Value) (ds gs : List (DataW H)) (before : List MemPlace)
    (hval : ∀ (j : Nat) t v, Try.f4.params[j]? = some t → args[j]? = some v → Value.okWide Try.prog W .any base t v)
    (hW : DataW.Whole enc Try.prog Try.f4.params.toList Rows.senderOneSpec.vars false W args.toList ds gs before) :
    Calls Try.prog 4 args W fun e W' => ∃ v, e = .returned v ∧ Rows.senderOneSpec.post enc Try.prog Try.f4 false true false false W args v W' := by
  have hW' := hW
  obtain ⟨p, q, hA0, hV, rfl, _, _⟩ := hW
  have hA : DataW.TrodAll enc Try.prog W 0 (fun _ => true) true Try.f4.params.toList args.toList ds p := hA0
  rw [Try.params4] at hA hval
  obtain ⟨v0, vs0, d0, ds0, p0, q0, hargs, rfl, rfl, h0, r0⟩ := trodAll_cons hA
  obtain ⟨v1, vs1, d1, ds1, p1, q1, rfl, rfl, rfl, h1, r1⟩ := trodAll_cons r0
  obtain ⟨v2, vs2, d2, ds2, p2, q2, rfl, rfl, rfl, h2, r2⟩ := trodAll_cons r1
  obtain ⟨rfl, rfl, rfl⟩ := trodAll_nil r2
  obtain rfl : args = #[v0, v1, v2] := by cases args; simp_all
  obtain ⟨rfl, rfl⟩ := trodVars_none hV
  have hlt0 : ∀ x ∈ p0, x.block < W.heap.size := fun x hx => hW'.lt x (by simp [hx])
  have hlt2 : ∀ x ∈ p2, x.block < W.heap.size := fun x hx => hW'.lt x (by simp [hx])
  obtain ⟨q0, hq0, rfl⟩ := open_two (hval 0 55 v0 rfl rfl) h0
  obtain ⟨n1, rfl, rfl, rfl, wn1⟩ := open_int Try.underlying27 (hval 1 27 v1 rfl rfl) h1
  obtain ⟨A2, c2, b2, rfl, hS2, hN2, hm2⟩ := open_bytes (hval 2 56 v2 rfl rfl) h2 hlt2
  refine (sdone_n q0 n1 A2 c2 b2 W hq0 wn1 hS2 hN2 hm2).mono fun e W' ⟨he, hb⟩ => ?_
  subst he
  exact ⟨_, rfl, [d0, .lit (.int .u32 n1), d2], [], _, [], _, [], hW', trodAll_cons_mk (shut_bool Try.underlying4 _) trodAll_mk0, trodAll_cons_mk (Below.trod laidOutT (by kernel_rfl) (of_decide_eq_true (by kernel_rfl)) h0 hb hlt0) (trodAll_cons_mk (shut_int Try.underlying27 wn1) (trodAll_cons_mk (Below.trod laidOutT (by kernel_rfl) (of_decide_eq_true (by kernel_rfl)) h2 hb hlt2) trodAll_mk0)), rfl, hb.frame _, fun h => by cases h⟩

set_option maxRecDepth 100000 in
theorem lifted (os : Os) (started : os.Started) (H : Type) (enc : TypeId × Value → H) :
    ReturnsInHanded {} Try.checked os 4 .any (Rows.senderOneSpec.pre6 enc Try.prog Try.f4 Rows.senderOneRow.domain false) (Rows.senderOneSpec.post enc Try.prog Try.f4 false true false false) := by
  refine returnsInHanded_of_change (C := Try.checked) ownK started (by kernel_rfl) Try.func4
    (ChangeSpec.witness6 (enc := enc) (C := Try.checked) false ⟨#[], #[.agg #[.int .u8 0, .int .u8 0], .int .u32 0, .slice none 0 0], []⟩ 8 (by kernel_rfl) (by kernel_rfl) (by kernel_rfl) (by kernel_rfl)) ?_
  intro W base args ds gs before hval hW _ _
  exact contract H enc W base args ds gs before hval hW

theorem said : Rows.SenderOneSaid :=
  OpenClaim.holds_of_wide 4 Try.f4 rfl rfl rfl rfl rfl rfl rfl ⟨rfl, rfl, rfl, rfl, rfl⟩ rfl rfl rfl rfl rfl (by kernel_rfl) Try.func4 (by kernel_rfl)
    (of_decide_eq_true (by kernel_rfl)) (by unfold Func.isWrapper; first | (rw [if_pos (by decide +kernel)]; kernel_rfl) | (rw [if_neg (by decide +kernel)]; exact ⟨rfl, rfl⟩))
    (fun os started H enc _ => lifted os started H enc)
end Go.Proofs.Ytppbgkdkioldbaa.senderOne
