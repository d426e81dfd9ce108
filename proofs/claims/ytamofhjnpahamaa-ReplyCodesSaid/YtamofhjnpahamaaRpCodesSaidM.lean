/- ReplyCodes: for every list of replies and slice of bytes the call returns true and changes nothing that it was handed. Conditions: those of the row. -/
import Derived.Test.YtamofhjnpahamaaRows
import Derived.Test.YtamofhjnpahamaaMLabel0
import Derived.Test.YtamofhjnpahamaaMLabel1
import Derived.Test.YtamofhjnpahamaaMGen0
/- The statement ReplyCodes: its walk. -/
set_option maxRecDepth 4000
namespace Go.Proofs.Ytamofhjnpahamaa
open Go Go.RowKit
def enB (i e : Int) (d : List (BitVec 8)) : List (BitVec 8) := if mayR i e d.length then repB i e d else []
def enE (i e : Int) (n : Nat) : Int := if mayR i e n then 0 else 11
theorem repenc_any (i e : Int) (A : Option Addr) (n c : Nat) (d : List (BitVec 8)) (hd : d.length = n) (w : World) (hs : Slice w (.slice A n c) d) (hA : A = none → c = 0) :
    Calls Try.prog 10 #[.agg (repCells i e (.slice A n c))] w fun x w' => ∃ v, x = .returned (.tuple #[v, .int .i64 (enE i e n)]) ∧ w'.ownsRow w.heap.size 5 1 v (enB i e d).length (bytesV (enB i e d)) ∧ Below w.heap.size w w' := by
  unfold enB enE
  rw [hd]
  cases hc : mayR i e n with
  | false => exact (repenc_bad i e A n c w hc).mono fun x w' ⟨h1, h2⟩ => ⟨_, h1, World.ownsRow_nil _ _ _ _, h2⟩
  | true => exact repenc_good i e A n c d hd w hs hA hc
theorem refrep_any (i e : Int) (A : Option Addr) (n c : Nat) (d : List (BitVec 8)) (hd : d.length = n) (w : World) (hs : Slice w (.slice A n c) d) (hA : A = none → c = 0) :
    Calls Try.prog 11 #[.agg (repCells i e (.slice A n c))] w fun x w' => ∃ v, x = .returned (.tuple #[v, .int .i64 (enE i e n)]) ∧ w'.ownsRow w.heap.size 5 1 v (enB i e d).length (bytesV (enB i e d)) ∧ Below w.heap.size w w' := by
  unfold enB enE
  rw [hd]
  cases hc : mayR i e n with
  | false => exact (refrep_bad i e A n c w hc).mono fun x w' ⟨h1, h2⟩ => ⟨_, h1, World.ownsRow_nil _ _ _ _, h2⟩
  | true => exact refrep_good i e A n c d hd w hs hA hc
theorem re_bounds (q : List (BitVec 8)) : -9223372036854775808 ≤ reI q ∧ reI q < 9223372036854775808 ∧ -9223372036854775808 ≤ reE q ∧ reE q < 9223372036854775808 ∧ (reD q).length ≤ q.length := by
  unfold reI reE reD
  cases h : rpOk q with
  | false => simp
  | true =>
    obtain ⟨_, hm, _⟩ := rp_of h
    obtain ⟨h0, h1, h2, h3, _⟩ := mayR_of hm
    refine ⟨?_, ?_, ?_, ?_, ?_⟩
    · simp only [if_true]; omega
    · simp only [if_true]; omega
    · simp only [if_true]; omega
    · simp only [if_true]; omega
    · simp only [if_true]; rw [length_rpD]; omega
theorem rep_row1 {w : World} {i e : Int} {A : Option Addr} {n c : Nat} {d : List (BitVec 8)} (h : RepAt w [.int .i64 i, .int .i64 e, .slice A n c] (i, e, d)) : RepsAt (w.alloc (.cells #[.int .i64 i, .int .i64 e, .slice A n c] 31)) (.slice (some ⟨w.heap.size, 0, none⟩) 1 1) [(i, e, d)] :=
  reps_row (l := [(i, e, d)]) (Row.fresh w 31 #[.int .i64 i, .int .i64 e, .slice A n c]) (Nat.le_refl 1) (by show 1 ≤ maxLen; decide) (fun k x hx => by
    rcases k with _ | k
    · cases hx
      exact h.below ((Below.refl w.heap.size w).alloc (Nat.le_refl _) _) (Nat.le_refl _)
    · cases hx)
set_option maxRecDepth 20000 in
set_option maxHeartbeats 3200000 in
theorem rpcodes_walk (A : Option Addr) (n c : Nat) (l : List Rp) (B : Option Addr) (c' : Nat) (q : List (BitVec 8)) (w : World) (h : RepsAt w (.slice A n c) l) (hn : n ≤ maxLen) (hs : Slice w (.slice B q.length c') q) (hB : B = none → c' = 0) (_ : q.length ≤ maxLen) :
    Calls Try.prog 3 #[.slice A n c, .slice B q.length c'] w fun e w' => e = .returned (.bool true) ∧ Below w.heap.size w w' := by
  have HF := Lib.hid (fairrep_any A n c l w h hn)
  have hln := reps_len h
  obtain ⟨ql, hql⟩ : ∃ ql, q.length = ql := ⟨_, rfl⟩
  rw [hql] at hs ⊢
  clear hn
  cases hfr : fairR l with
  | false =>
    rw [hfr] at HF
    clear h hln hs hB hql hfr
    go_enter Try.func3, Try.ntmps3
    go_wp2_with fail
    refine (HF.out).mono ?_
    rintro x w2 ⟨rfl, rfl⟩
    go_wp2_with fail
    refine (rpwakes_any w).mono ?_
    rintro x9 w99 ⟨rfl, hb9⟩
    go_wp2_with fail
    go_ret
    exact ⟨rfl, (Below.refl w.heap.size w).trans (hb9.mono (Below.refl w.heap.size w).size)⟩
  | true =>
    rw [hfr] at HF
    obtain ⟨h600, h20⟩ := fairR_of hfr
    have hn20 : n ≤ 20 := by omega
    clear hfr
    by_cases hq1 : ql ≤ 1000
    case neg =>
      have hd : decide (1000 < (ql : Int)) = true := decide_eq_true (by omega)
      clear h hln hs hB hql h600 h20 hq1
      go_enter Try.func3, Try.ntmps3
      go_wp2_with fail
      refine (HF.out).mono ?_
      rintro x w2 ⟨rfl, rfl⟩
      go_wp2_with fail
      refine (rpwakes_any w).mono ?_
      rintro x9 w99 ⟨rfl, hb9⟩
      go_wp2_with fail
      go_ret
      exact ⟨rfl, (Below.refl w.heap.size w).trans (hb9.mono (Below.refl w.heap.size w).size)⟩
    have hd : decide (1000 < (ql : Int)) = false := decide_eq_false (by omega)
    have HOWN := Lib.hid (ownrep_any A n c l w h (by omega) h600)
    have HL := Lib.hid h
    have HLN := Lib.hid hln
    have HQ := Lib.hid hql
    have HS := Lib.hid hs
    have HBN := Lib.hid hB
    clear h hln hs hB hql h600 h20
    go_enter Try.func3, Try.ntmps3
    go_wp2_with fail
    refine (HF.out).mono ?_
    rintro x w2 ⟨rfl, rfl⟩
    go_upto_region 3 with fail
    clear hd
    go_wp2_with fail
    refine HOWN.out.mono ?_
    rintro x w3 ⟨v5, rfl, ho5⟩
    obtain ⟨A5, c5, rfl⟩ : ∃ A5 c5, v5 = .slice A5 n c5 := by
      obtain ⟨vs, h1, _⟩ := ho5
      obtain ⟨A5, c5, e5, _⟩ := own_slice_form h1
      rw [HLN.out] at e5
      exact ⟨A5, c5, e5⟩
    have HB3 : Hid (Below w.heap.size w w3) := Lib.hid (by obtain ⟨_, _, _, _, hb, _⟩ := ho5; exact hb)
    have HIN := Lib.hid (ho5.reps HLN.out (by unfold maxLen; omega))
    have HL3 := Lib.hid (HL.out.below HB3.out (Nat.le_refl _))
    have HS3 := Lib.hid (HS.out.below HB3.out (Nat.le_refl _))
    clear ho5 HOWN HL HS HF
    go_upto_region 4 with fail
    go_wp2_with fail
    go_loopw [6] (fun i wr => ∃ k : Nat, k ≤ n ∧ i = .int .i64 k ∧ Below w3.heap.size w3 wr) (fun i _ => n - (intOf i).toNat)
    case atStart => exact ⟨0, by omega, rfl, Below.refl _ _⟩
    case round =>
      obtain ⟨k, hk, rfl, hbr⟩ := hrel
      have HBR := Lib.hid hbr
      clear hbr
      by_cases hlt : k < n
      · obtain ⟨b, o, i, e, B1, m, c1, d, hx, rfl, hb1, hr1, hs1, hm1, hA2, _, _⟩ := reps_get HIN.out (k := k) (by rw [HLN.out]; exact hlt)
        obtain ⟨b', o', i', e', B2, m', c2, d', hx', rfl, hb1', hr1', hs1', hm1', hA2', _, _⟩ := reps_get HL3.out (k := k) (by rw [HLN.out]; exact hlt)
        obtain ⟨rfl, rfl, rfl⟩ : i = i' ∧ e = e' ∧ d = d' := by
          have := hx.symm.trans hx'
          injection this with this
          injection this with h1 this
          injection this with h2 h3
          exact ⟨h1, h2, h3⟩
        obtain rfl : m = m' := by rw [← hm1, ← hm1']
        obtain ⟨O, hO⟩ : ∃ O, o + k * 3 = O := ⟨_, rfl⟩
        obtain ⟨O', hO'⟩ : ∃ O', o' + k * 3 = O' := ⟨_, rfl⟩
        rw [hO] at hr1
        rw [hO'] at hr1'
        have HR1 : Hid (wr.rangeAt b O [.int .i64 i, .int .i64 e, .slice B1 m c1]) := Lib.hid fun j v hv => (HBR.out.cell (p := ⟨b, O + j, none⟩) hb1).trans (hr1 j v hv)
        have HR2 : Hid (∀ W, Below w3.heap.size w3 W → W.rangeAt b' O' [.int .i64 i, .int .i64 e, .slice B2 m c2]) := Lib.hid fun W hb j v hv => (hb.cell (p := ⟨b', O' + j, none⟩) hb1').trans (hr1' j v hv)
        have CE := repenc_any i e B1 m c1 d hm1 wr (hs1.below HBR.out (Nat.le_refl _)) hA2
        have HCR := Lib.hid (fun W (hb : Below w3.heap.size w3 W) => refrep_any i e B2 m c2 d hm1 W (hs1'.below hb (Nat.le_refl _)) hA2')
        obtain ⟨Q, hQ⟩ : ∃ Q, enB i e d = Q := ⟨_, rfl⟩
        obtain ⟨E, hE⟩ : ∃ E, enE i e m = E := ⟨_, rfl⟩
        rw [hQ, hE] at CE HCR
        have hk0 : (0 : Int) ≤ (k : Int) := by omega
        have hk1 : (k : Int) < (n : Int) := by omega
        have HO1 := Lib.hid hO
        have HO2 := Lib.hid hO'
        clear hx hx' hb1 hb1' hr1 hr1' hs1 hs1' hm1 hm1' hA2 hA2' hQ hE hO hO'
        have hO := HO1.out
        go_wp2_with (first | ((with_reducible refine wpList_plain ?_ ?_); exact rfl; intro KK hKK; refine wp_load_mid 31 (.tmp 39) rfl b O rfl [.int .i64 i, .int .i64 e, .slice B1 m c1] _ HR1.out Try.underlying31 rfl (by exact size_rep) (hKK _ _ ?_); clear hKK KK))
        refine CE.mono ?_
        rintro x w4 ⟨v7, rfl, ho7, hb⟩
        have HB4 := Lib.hid (HBR.out.trans (hb.mono HBR.out.size))
        have hs7 := own_slice ho7
        have CR := HCR.out w4 HB4.out
        clear CE hO ho7 hb
        have hO := HO2.out
        go_wp2_with (first | ((with_reducible refine wpList_plain ?_ ?_); exact rfl; intro KK hKK; refine wp_load_mid 31 (.tmp 47) rfl b' O' rfl [.int .i64 i, .int .i64 e, .slice B2 m c2] _ (HR2.out _ HB4.out) Try.underlying31 rfl (by exact size_rep) (hKK _ _ ?_); clear hKK KK))
        refine CR.mono ?_
        rintro x w5 ⟨v9, rfl, ho9, hb⟩
        have HB5 := Lib.hid (HB4.out.trans (hb.mono HB4.out.size))
        have CB := keepb_any v7 v9 Q Q w5 (hs7.below hb (Nat.le_refl _)) (own_slice ho9)
        rw [decide_eq_true rfl] at CB
        clear CR hO ho9 hb hs7
        go_wp2_with fail
        refine CB.mono ?_
        rintro x w6 ⟨rfl, rfl⟩
        clear CB
        go_wp2_with fail
        exact ⟨⟨k + 1, by omega, by go_num, HB5.out⟩, by simp [intOf]; omega⟩
      · obtain rfl : k = n := by omega
        obtain ⟨J, hJ⟩ : ∃ J, jnB l = J := ⟨_, rfl⟩
        obtain ⟨E, hE⟩ : ∃ E, jnE l = E := ⟨_, rfl⟩
        have CJ := repjoin_any A5 k c5 l wr (HIN.out.below HBR.out (Nat.le_refl _)) (by omega)
        have HRJ := Lib.hid (fun W (hb : Below w3.heap.size w3 W) => refjoin_any A k c l W (HL3.out.below hb (Nat.le_refl _)) (by omega))
        rw [hJ, hE] at CJ HRJ
        clear hJ hE
        go_upto_region 11 with fail
        go_wp2_with fail
        refine CJ.mono ?_
        rintro x w4 ⟨v11, rfl, ho, hb⟩
        have HB4 := Lib.hid (HBR.out.trans (hb.mono HBR.out.size))
        have HS11 := Lib.hid (own_slice ho)
        have CR := HRJ.out w4 HB4.out
        clear CJ ho hb HRJ
        go_wp2_with fail
        refine CR.mono ?_
        rintro x w5 ⟨v13, rfl, ho, hb⟩
        have HB5 := Lib.hid (HB4.out.trans (hb.mono HB4.out.size))
        have HS11x := Lib.hid (HS11.out.below hb (Nat.le_refl _))
        have HS13 := Lib.hid (own_slice ho)
        clear CR ho hb HS11
        have hsq := HS3.out.below (HB5.out.alloc HB5.out.size (.cells #[] 5)) (Nat.le_refl _)
        have hBN := HBN.out
        go_wp2_with (at_builtin; refine wpList_append_slice rfl (.tmp 72) (.tmp 73) rfl w5.heap.size _ 0 [] rfl (own_empty w5) B ql c' q rfl hsq hBN (by omega) (by simp) ?_; intro kv w6 own1 hb4; simp only [Nat.zero_add, List.nil_append] at own1; have hb14 := ((Below.refl w5.heap.size w5).alloc (Nat.le_refl _) (.cells #[] 5)).trans hb4; clear hsq hb4)
        have hsk := own_slice (q := q) (by rw [HQ.out]; exact own1)
        obtain ⟨Ak, ck, rfl, _⟩ := own_slice_form own1
        have CD := repdec_any Ak ql ck q w6 hsk HQ.out (by omega)
        have HB6 := Lib.hid (HB5.out.trans (hb14.mono HB5.out.size))
        have HS11 := Lib.hid (HS11x.out.below hb14 (Nat.le_refl _))
        have HS13x := Lib.hid (HS13.out.below hb14 (Nat.le_refl _))
        clear own1 hb14 hsk HS11x HS13 hBN
        refine CD.mono ?_
        rintro x w7 ⟨v15, rfl, ho, hb⟩
        obtain ⟨dl, hdl⟩ : ∃ dl, (reD q).length = dl := ⟨_, rfl⟩
        have HDL := Lib.hid hdl
        have hn7 := own_nil ho
        have hs7 := own_slice ho
        obtain ⟨A7, c7, rfl, _⟩ := own_slice_form ho
        rw [hdl] at hs7 hn7 ⊢
        obtain ⟨rb1, rb2, rb3, rb4, rb5⟩ := re_bounds q
        have HRB := Lib.hid (And.intro rb1 (And.intro rb2 (And.intro rb3 rb4)))
        have HDM : Hid (dl ≤ maxLen) := Lib.hid (by unfold maxLen; rw [hdl, HQ.out] at rb5; omega)
        have HR7 : Hid (RepAt w7 [.int .i64 (reI q), .int .i64 (reE q), .slice A7 dl c7] (reI q, reE q, reD q)) := Lib.hid (rep_at hs7 (fun h => hn7 _ _ (by rw [h])) HDM.out rb1 rb2 rb3 rb4)
        have HB7 := Lib.hid (HB6.out.trans (hb.mono HB6.out.size))
        have HS11x := Lib.hid (HS11.out.below hb (Nat.le_refl _))
        have HS13 := Lib.hid (HS13x.out.below hb (Nat.le_refl _))
        clear ho hb hn7 hs7 CD rb1 rb2 rb3 rb4 rb5 HS11 HS13x hdl
        have HT := St.nil w7 noF
        go_upto_region 14 with (first | ((with_reducible refine wpList_plain ?_ ?_); exact rfl; intro KK hKK; refine wp_st_alloc HT 31 (repCells 0 0 (.slice none 0 0)) rfl (.agg (repCells 0 0 (.slice none 0 0))) (by kernel_rfl) (rfl) (fun g15 W11 HSx => hKK _ _ ?_); clear hKK KK HT; have HT : St w7 noF [⟨g15, 31, repCells 0 0 (.slice none 0 0)⟩] W11 := HSx; clear HSx) | ((with_reducible refine wpList_plain ?_ ?_); exact rfl; intro KK hKK; refine wp_st_store HT 0 0 31 (.tmp 15) (.tmp 76) rfl rfl rfl (.agg (repCells (reI q) (reE q) (.slice A7 dl c7))) rfl (by exact size_rep) (Nat.le_refl _) (rep_one ..) (repCells (reI q) (reE q) (.slice A7 dl c7)) (by exact spl_agg _ _ _ rfl rfl) (fun W12 HSx => hKK _ _ ?_); clear hKK KK HT; have HT : St w7 noF [⟨g15, 31, repCells (reI q) (reE q) (.slice A7 dl c7)⟩] W12 := HSx; clear HSx))
        have HG15 : Hid (Row W12 g15 31 (repCells (reI q) (reE q) (.slice A7 dl c7))) := Lib.hid (HT.row 0 rfl)
        have HR7x := Lib.hid (HR7.out.below HT.below (Nat.le_refl _))
        have HB8 := Lib.hid (HB7.out.trans (HT.below.mono HB7.out.size))
        have HS11 := Lib.hid (HS11x.out.below HT.below (Nat.le_refl _))
        have HS13x := Lib.hid (HS13.out.below HT.below (Nat.le_refl _))
        have CR := refrepdec_any B ql c' q W12 (HS3.out.below HB8.out (Nat.le_refl _)) HQ.out (by omega)
        clear HT HR7 HS11x HS13
        go_wp2_with fail
        refine CR.mono ?_
        rintro x w8 ⟨v17, rfl, ho, hb⟩
        have hn8 := own_nil ho
        have hs8 := own_slice ho
        obtain ⟨A8, c8, rfl, _⟩ := own_slice_form ho
        rw [HDL.out] at hs8 hn8 ⊢
        have HR8 : Hid (RepAt w8 [.int .i64 (reI q), .int .i64 (reE q), .slice A8 dl c8] (reI q, reE q, reD q)) := Lib.hid (rep_at hs8 (fun h => hn8 _ _ (by rw [h])) HDM.out HRB.out.1 HRB.out.2.1 HRB.out.2.2.1 HRB.out.2.2.2)
        have HG15x := Lib.hid (HG15.out.call hb)
        have HR7 := Lib.hid (HR7x.out.below hb (Nat.le_refl _))
        have HB9 := Lib.hid (HB8.out.trans (hb.mono HB8.out.size))
        have HS11x := Lib.hid (HS11.out.below hb (Nat.le_refl _))
        have HS13 := Lib.hid (HS13x.out.below hb (Nat.le_refl _))
        clear ho hb hn8 hs8 CR HG15 HR7x HS11 HS13x
        have HT := St.nil w8 noF
        go_upto_region 15 with (first | ((with_reducible refine wpList_plain ?_ ?_); exact rfl; intro KK hKK; refine wp_st_alloc HT 31 (repCells 0 0 (.slice none 0 0)) rfl (.agg (repCells 0 0 (.slice none 0 0))) (by kernel_rfl) (rfl) (fun g17 W21 HSx => hKK _ _ ?_); clear hKK KK HT; have HT : St w8 noF [⟨g17, 31, repCells 0 0 (.slice none 0 0)⟩] W21 := HSx; clear HSx) | ((with_reducible refine wpList_plain ?_ ?_); exact rfl; intro KK hKK; refine wp_st_store HT 0 0 31 (.tmp 17) (.tmp 81) rfl rfl rfl (.agg (repCells (reI q) (reE q) (.slice A8 dl c8))) rfl (by exact size_rep) (Nat.le_refl _) (rep_one ..) (repCells (reI q) (reE q) (.slice A8 dl c8)) (by exact spl_agg _ _ _ rfl rfl) (fun W22 HSx => hKK _ _ ?_); clear hKK KK HT; have HT : St w8 noF [⟨g17, 31, repCells (reI q) (reE q) (.slice A8 dl c8)⟩] W22 := HSx; clear HSx))
        have HG17 : Hid (Row W22 g17 31 (repCells (reI q) (reE q) (.slice A8 dl c8))) := Lib.hid (HT.row 0 rfl)
        have HG15 := Lib.hid (HG15x.out.call HT.below)
        have HR7x := Lib.hid (HR7.out.below HT.below (Nat.le_refl _))
        have HR8x := Lib.hid (HR8.out.below HT.below (Nat.le_refl _))
        have HBA := Lib.hid (HB9.out.trans (HT.below.mono HB9.out.size))
        have CB := keepb_any v11 v13 J J W22 (HS11x.out.below HT.below (Nat.le_refl _)) (HS13.out.below HT.below (Nat.le_refl _))
        rw [decide_eq_true rfl] at CB
        have hz1 : (W22.alloc (.cells #[.int .i64 (reI q), .int .i64 (reE q), .slice A7 dl c7] 31)).heap.size = W22.heap.size + 1 := by simp
        have CK := keepreps_any [(reI q, reE q, reD q)] [(reI q, reE q, reD q)] (some ⟨W22.heap.size, 0, none⟩) (some ⟨W22.heap.size + 1, 0, none⟩) 1 1 1 1 ((W22.alloc (.cells #[.int .i64 (reI q), .int .i64 (reE q), .slice A7 dl c7] 31)).alloc (.cells #[.int .i64 (reI q), .int .i64 (reE q), .slice A8 dl c8] 31))
          ((rep_row1 HR7x.out).below ((Below.refl _ _).alloc (Nat.le_refl _) _) (Nat.le_refl _))
          (by rw [← hz1]; exact rep_row1 (HR8x.out.below ((Below.refl _ _).alloc (Nat.le_refl _) _) (Nat.le_refl _))) (by decide) (by decide)
        rw [decide_eq_true rfl] at CK
        have HBC : Hid (Below w3.heap.size w3 ((W22.alloc (.cells #[.int .i64 (reI q), .int .i64 (reE q), .slice A7 dl c7] 31)).alloc (.cells #[.int .i64 (reI q), .int .i64 (reE q), .slice A8 dl c8] 31))) := Lib.hid ((HBA.out.alloc HBA.out.size _).alloc (HBA.out.alloc HBA.out.size _).size _)
        clear HT hz1 HG15x HR7 HR8 HR7x HR8x HS11x HS13
        go_wp2_with fail
        refine CB.mono ?_
        rintro x w9 ⟨rfl, rfl⟩
        clear CB
        go_wp2_with (first | ((with_reducible refine wplG_row 31 15 g15 31 #[.int .i64 (reI q), .int .i64 (reE q), .slice A7 dl c7] (0, 0) _ ?_ ?_ ?_ Try.underlying31 ?_ ?_ ?_); exact rfl; exact rfl; exact HG15.out; exact rfl; exact size_rep) | ((with_reducible refine wplG_row 31 17 g17 31 #[.int .i64 (reI q), .int .i64 (reE q), .slice A8 dl c8] (0, 0) _ ?_ ?_ ?_ Try.underlying31 ?_ ?_ ?_); exact rfl; exact rfl; exact HG17.out.alloc _; exact rfl; exact size_rep))
        refine CK.mono ?_
        rintro x w10 ⟨rfl, hb⟩
        have HBD := Lib.hid (HBC.out.trans (hb.mono HBC.out.size))
        have CL := keepreps_any l l A5 A k k c5 c w10 (HIN.out.below HBD.out (Nat.le_refl _)) (HL3.out.below HBD.out (Nat.le_refl _)) (by omega) (by omega)
        rw [decide_eq_true rfl] at CL
        clear CK hb HG15 HG17
        go_wp2_with fail
        refine CL.mono ?_
        rintro x w11 ⟨rfl, hb⟩
        have HBE := Lib.hid (HB3.out.trans ((HBD.out.trans (hb.mono HBD.out.size)).mono HB3.out.size))
        clear CL hb
        go_wp2_with fail
        refine (rpwakes_any w11).mono ?_
        rintro x9 w99 ⟨rfl, hb9⟩
        go_wp2_with fail
        go_ret
        exact ⟨rfl, HBE.out.trans (hb9.mono HBE.out.size)⟩
end Go.Proofs.Ytamofhjnpahamaa

/- ReplyCodes: for every list of replies and slice of bytes the call returns true and changes nothing that it was handed. Conditions: those of the row. -/
set_option maxRecDepth 4000
namespace Go.Proofs.Ytamofhjnpahamaa.replyCodes
open Go Go.ChangeShapes Go.WideShapes Go.ChangeAt Go.RowKit

theorem contract (H : Type) (enc : TypeId × Value → H) (W : World) (base : Nat) (args : Array Value) (ds gs : List (DataW H)) (before : List MemPlace)
    (hval : ∀ (j : Nat) t v, Try.f3.params[j]? = some t → args[j]? = some v → Value.okWide Try.prog W .any base t v)
    (hW : DataW.Whole enc Try.prog Try.f3.params.toList Rows.replyCodesSpec.vars false W args.toList ds gs before) :
    Calls Try.prog 3 args W fun e W' => ∃ v, e = .returned v ∧ Rows.replyCodesSpec.post enc Try.prog Try.f3 false true false false W args v W' := by
  have hW' := hW
  obtain ⟨p, q, hA0, hV, rfl, _, _⟩ := hW
  have hA : DataW.TrodAll enc Try.prog W 0 (fun _ => true) true Try.f3.params.toList args.toList ds p := hA0
  rw [Try.params3] at hA hval
  obtain ⟨v0, vs0, d0, ds0, p0, q0, hargs, rfl, rfl, h0, r0⟩ := trodAll_cons hA
  obtain ⟨v1, vs1, d1, ds1, p1, q1, rfl, rfl, rfl, h1, r1⟩ := trodAll_cons r0
  obtain ⟨rfl, rfl, rfl⟩ := trodAll_nil r1
  obtain rfl : args = #[v0, v1] := by cases args; simp_all
  obtain ⟨rfl, rfl⟩ := trodVars_none hV
  have hlt0 : ∀ x ∈ p0, x.block < W.heap.size := fun x hx => hW'.lt x (by simp [hx])
  have hlt1 : ∀ x ∈ p1, x.block < W.heap.size := fun x hx => hW'.lt x (by simp [hx])
  obtain ⟨A0, n0, c0, l0, rfl, hS0, hm0⟩ := open_reps (hval 0 22 v0 rfl rfl) h0 hlt0
  obtain ⟨A1, c1, b1, rfl, hS1, hN1, hm1⟩ := open_bytes (hval 1 23 v1 rfl rfl) h1 hlt1
  refine (rpcodes_walk A0 n0 c0 l0 A1 c1 b1 W hS0 hm0 hS1 hN1 hm1).mono fun e W' ⟨he, hb⟩ => ?_
  subst he
  exact ⟨_, rfl, [d0, d1], [], _, [], _, [], hW', trodAll_cons_mk (shut_bool Try.underlying4 _) trodAll_mk0, trodAll_cons_mk (Below.trod laidOutT (by kernel_rfl) (of_decide_eq_true (by kernel_rfl)) h0 hb hlt0) (trodAll_cons_mk (Below.trod laidOutT (by kernel_rfl) (of_decide_eq_true (by kernel_rfl)) h1 hb hlt1) trodAll_mk0), rfl, hb.frame _, fun h => by cases h⟩

set_option maxRecDepth 100000 in
theorem lifted (os : Os) (started : os.Started) (H : Type) (enc : TypeId × Value → H) :
    ReturnsInHanded {} Try.checked os 3 .any (Rows.replyCodesSpec.pre6 enc Try.prog Try.f3 Rows.replyCodesRow.domain false) (Rows.replyCodesSpec.post enc Try.prog Try.f3 false true false false) := by
  refine returnsInHanded_of_change (C := Try.checked) ownK started (by kernel_rfl) Try.func3
    (ChangeSpec.witness6 (enc := enc) (C := Try.checked) false ⟨#[], #[.slice none 0 0, .slice none 0 0], []⟩ 8 (by kernel_rfl) (by kernel_rfl) (by kernel_rfl) (by kernel_rfl)) ?_
  intro W base args ds gs before hval hW _ _
  exact contract H enc W base args ds gs before hval hW

theorem said : Rows.ReplyCodesSaid :=
  OpenClaim.holds_of_wide 3 Try.f3 rfl rfl rfl rfl rfl rfl rfl ⟨rfl, rfl, rfl, rfl, rfl⟩ rfl rfl rfl rfl rfl (by kernel_rfl) Try.func3 (by kernel_rfl)
    (of_decide_eq_true (by kernel_rfl)) (by unfold Func.isWrapper; first | (rw [if_pos (by decide +kernel)]; kernel_rfl) | (rw [if_neg (by decide +kernel)]; exact ⟨rfl, rfl⟩))
    (fun os started H enc _ => lifted os started H enc)
end Go.Proofs.Ytamofhjnpahamaa.replyCodes
