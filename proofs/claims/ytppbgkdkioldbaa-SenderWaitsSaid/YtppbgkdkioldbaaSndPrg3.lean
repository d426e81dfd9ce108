/- The program's sender: Send, Acked, Touch. -/
import Derived.Test.YtppbgkdkioldbaaSndPrg2
import Derived.Test.YtppbgkdkioldbaaPhA
import Derived.Test.YtppbgkdkioldbaaFill
set_option maxRecDepth 4000
namespace Go.Proofs.Ytppbgkdkioldbaa
open Go Go.RowKit
theorem send_nil (p : Pkt) (v : Value) (w : World) : Calls Try.prog 10 #[.pointer none, .agg (pktA p.k p.e p.s v)] w fun x w' => x = .returned (.int .i64 1) ∧ Below w.heap.size w w' := by
  obtain ⟨k, e, s, l⟩ := p
  have HS := St.nil w noF
  go_enter Try.func10, Try.ntmps10
  go_upto_region 1 with (first | ((with_reducible refine wpList_plain ?_ ?_); exact rfl; intro KK hKK; refine wp_st_box HS 30 (.tmp 1) rfl _ rfl (pktA k e s v) (rfl) (fun g1 W1 HSx => hKK _ _ ?_); clear hKK KK HS; have HS : St w noF [⟨g1, 30, pktA k e s v⟩] W1 := HSx; clear HSx))
  have HB := Lib.hid HS.below
  clear HS
  go_wp2_with fail
  go_ret
  exact ⟨rfl, HB.out⟩
set_option maxHeartbeats 3200000 in
theorem send_any (g : Nat) (S : Snd) (p : Pkt) (D : Option Addr) (q f : Nat) (w : World) (h : SndAt w g S) (hp : PutsAt w (.slice D q f) p.l) (hl : p.l.length ≤ maxLen) :
    Calls Try.prog 10 #[.pointer (some ⟨g, 0, none⟩), .agg (pktA p.k p.e p.s (.slice D q f))] w fun x w' => x = .returned (.int .i64 (sendE S p)) ∧ SndAt w' g (sendS S p) ∧ Chg (fun k => k = g) w w' := by
  obtain ⟨A, n, c, B, m, d, hr, hpo, hpp⟩ := h
  have HR := Lib.hid hr
  have HPO := Lib.hid hpo
  have HPP := Lib.hid hpp
  clear hr hpo hpp
  have HPN := Lib.hid hp
  have HL := Lib.hid hl
  have hq := puts_len hp
  clear hp hl
  by_cases hk : p.k = 1 ∨ p.k = 2
  case neg =>
    have hO : opB p = false := by unfold opB; rw [decide_eq_false hk]; rfl
    have hE : sendE S p = 1 := by unfold sendE; rw [hO]; rfl
    have hS : sendS S p = S := by unfold sendS; rw [hO]; exact if_neg (fun h => by cases h.1)
    rw [hE, hS]
    obtain ⟨k, e, s, l⟩ := p
    simp only at hk HPN ⊢
    have h1 : (k != 1) = true := bne_iff_ne.2 fun h => hk (.inl h)
    have h2 : (k != 2) = true := bne_iff_ne.2 fun h => hk (.inr h)
    have HS := St.nil w noF
    clear hO hE hS hk
    go_enter Try.func10, Try.ntmps10
    go_upto_region 1 with (first | ((with_reducible refine wpList_plain ?_ ?_); exact rfl; intro KK hKK; refine wp_st_box HS 30 (.tmp 1) rfl _ rfl (pktA k e s (.slice D q f)) (rfl) (fun g1 W1 HSx => hKK _ _ ?_); clear hKK KK HS; have HS : St w noF [⟨g1, 30, pktA k e s (.slice D q f)⟩] W1 := HSx; clear HSx))
    have c0 : W1.cell? ⟨g1, 0, none⟩ = some (.int .i64 k) := (HS.row 0 rfl).get rfl
    have HB := Lib.hid HS.below
    go_wp2_with fail
    go_ret
    exact ⟨rfl, SndAt.call ⟨A, n, c, B, m, d, HR.out, HPO.out, HPP.out⟩ HB.out, Chg.of_below HB.out⟩
  have CE := Lib.hid (fun W (hb : Below w.heap.size w W) => pktenc_bad p (.slice D q f) W (HPN.out.below hb (Nat.le_refl _)) HL.out)
  have CG := Lib.hid (fun W (hb : Below w.heap.size w W) => pktenc_good p (.slice D q f) W (HPN.out.below hb (Nat.le_refl _)))
  cases hm : mayP p with
  | false =>
    have hO : opB p = false := by unfold opB; rw [hm, Bool.and_false]
    have hE : sendE S p = 1 := by unfold sendE; rw [hO]; rfl
    have hS : sendS S p = S := by unfold sendS; rw [hO]; exact if_neg (fun h => by cases h.1)
    rw [hE, hS]
    have C := Lib.hid (fun W hb => CE.out W hb hm)
    clear CE CG hO hE hS hm
    obtain ⟨k, e, s, l⟩ := p
    simp only at hk HPN C ⊢
    have HS := St.nil w noF
    rcases hk with rfl | rfl
    · go_enter Try.func10, Try.ntmps10
      go_upto_region 1 with (first | ((with_reducible refine wpList_plain ?_ ?_); exact rfl; intro KK hKK; refine wp_st_box HS 30 (.tmp 1) rfl _ rfl (pktA 1 e s (.slice D q f)) (rfl) (fun g1 W1 HSx => hKK _ _ ?_); clear hKK KK HS; have HS : St w noF [⟨g1, 30, pktA 1 e s (.slice D q f)⟩] W1 := HSx; clear HSx))
      have c0 : W1.cell? ⟨g1, 0, none⟩ = some (.int .i64 1) := (HS.row 0 rfl).get rfl
      have HB := Lib.hid HS.below
      go_wp2_with (first | ((with_reducible refine wpList_plain ?_ ?_); exact rfl; intro KK hKK; refine wp_st_load HS 0 0 30 (.tmp 3) rfl rfl rfl (pktA 1 e s (.slice D q f)) (slab_whole _) _ Try.underlying30 rfl (by exact size_pkt) (hKK _ _ ?_); clear hKK KK))
      refine (C.out _ HB.out).mono ?_
      rintro x w2 ⟨rfl, hb⟩
      have HB2 := Lib.hid (HB.out.trans (hb.mono HB.out.size))
      clear HS hb C c0
      go_wp2_with fail
      go_ret
      exact ⟨rfl, SndAt.call ⟨A, n, c, B, m, d, HR.out, HPO.out, HPP.out⟩ HB2.out, Chg.of_below HB2.out⟩
    · go_enter Try.func10, Try.ntmps10
      go_upto_region 1 with (first | ((with_reducible refine wpList_plain ?_ ?_); exact rfl; intro KK hKK; refine wp_st_box HS 30 (.tmp 1) rfl _ rfl (pktA 2 e s (.slice D q f)) (rfl) (fun g1 W1 HSx => hKK _ _ ?_); clear hKK KK HS; have HS : St w noF [⟨g1, 30, pktA 2 e s (.slice D q f)⟩] W1 := HSx; clear HSx))
      have c0 : W1.cell? ⟨g1, 0, none⟩ = some (.int .i64 2) := (HS.row 0 rfl).get rfl
      have HB := Lib.hid HS.below
      go_wp2_with (first | ((with_reducible refine wpList_plain ?_ ?_); exact rfl; intro KK hKK; refine wp_st_load HS 0 0 30 (.tmp 3) rfl rfl rfl (pktA 2 e s (.slice D q f)) (slab_whole _) _ Try.underlying30 rfl (by exact size_pkt) (hKK _ _ ?_); clear hKK KK))
      refine (C.out _ HB.out).mono ?_
      rintro x w2 ⟨rfl, hb⟩
      have HB2 := Lib.hid (HB.out.trans (hb.mono HB.out.size))
      clear HS hb C c0
      go_wp2_with fail
      go_ret
      exact ⟨rfl, SndAt.call ⟨A, n, c, B, m, d, HR.out, HPO.out, HPP.out⟩ HB2.out, Chg.of_below HB2.out⟩
  | true =>
    have hO : opB p = true := by unfold opB; rw [hm, decide_eq_true hk]; rfl
    have hl5 := mayP_len hm
    have HLq : Hid (q ≤ 5) := Lib.hid (by rw [← hq]; exact hl5)
    have C := Lib.hid (fun W hb => CG.out W hb hm)
    have CI := Lib.hid (fun W => is_any S.o.k S.o.e S.o.s (.slice A n c) W)
    have HOK := Lib.hid hO
    clear CE CG hm hl5 hq
    by_cases h0 : S.o.k = 0
    · have hE : sendE S p = 0 := by unfold sendE; rw [HOK.out, if_pos rfl, if_pos h0]
      have hS : sendS S p = ⟨p, S.p, 0, false⟩ := if_pos ⟨HOK.out, h0⟩
      rw [hE, hS]
      rw [decide_eq_false (by simp [h0])] at CI
      clear hE hS h0 hO
      obtain ⟨k, e, s, l⟩ := p
      simp only at hk HPN C ⊢
      have HS := St.nil w noF
      rcases hk with rfl | rfl
      · go_enter Try.func10, Try.ntmps10
        go_upto_region 1 with (first | ((with_reducible refine wpList_plain ?_ ?_); exact rfl; intro KK hKK; refine wp_st_box HS 30 (.tmp 1) rfl _ rfl (pktA 1 e s (.slice D q f)) (rfl) (fun g1 W1 HSx => hKK _ _ ?_); clear hKK KK HS; have HS : St w noF [⟨g1, 30, pktA 1 e s (.slice D q f)⟩] W1 := HSx; clear HSx))
        have c0 : W1.cell? ⟨g1, 0, none⟩ = some (.int .i64 1) := (HS.row 0 rfl).get rfl
        have HB := Lib.hid HS.below
        go_wp2_with (first | ((with_reducible refine wpList_plain ?_ ?_); exact rfl; intro KK hKK; refine wp_st_load HS 0 0 30 (.tmp 3) rfl rfl rfl (pktA 1 e s (.slice D q f)) (slab_whole _) _ Try.underlying30 rfl (by exact size_pkt) (hKK _ _ ?_); clear hKK KK))
        refine (C.out _ HB.out).mono ?_
        rintro x w2 ⟨v2, rfl, _, hb⟩
        have HB2 := Lib.hid (HB.out.trans (hb.mono HB.out.size))
        have HSx := HS.same hb
        clear HS hb C c0
        have HG := st_only (HR.out.call HB2.out)
        go_wp2_with (first | ((with_reducible refine wpList_plain ?_ ?_); exact rfl; intro KK hKK; refine wp_st_load HG 0 0 30 (.tmp 28) rfl rfl rfl (pktA S.o.k S.o.e S.o.s (.slice A n c)) (by exact rfl) _ Try.underlying30 rfl (by exact size_pkt) (hKK _ _ ?_); clear hKK KK))
        refine (CI.out _).mono ?_
        rintro x w3 ⟨rfl, hb⟩
        have HB3 := Lib.hid (HB2.out.trans (hb.mono HB2.out.size))
        have HS := HSx.same hb
        clear HSx HG hb CI
        have CC := copied_any 1 e s D q f l w3 (HPN.out.below HB3.out (Nat.le_refl _)) (by have := HLq.out; omega)
        go_wp2_with (first | ((with_reducible refine wpList_plain ?_ ?_); exact rfl; intro KK hKK; refine wp_st_load HS 0 0 30 (.tmp 3) rfl rfl rfl (pktA 1 e s (.slice D q f)) (slab_whole _) _ Try.underlying30 rfl (by exact size_pkt) (hKK _ _ ?_); clear hKK KK))
        refine CC.mono ?_
        rintro x w4 ⟨D2, q2, f2, rfl, hp2, hb⟩
        have HB4 := Lib.hid (HB3.out.trans (hb.mono HB3.out.size))
        have CR := replace_any g S ⟨1, e, s, l⟩ D2 q2 f2 w4 (SndAt.call ⟨A, n, c, B, m, d, HR.out, HPO.out, HPP.out⟩ HB4.out) hp2
        simp only at CR
        clear HS hb CC hp2
        go_wp2_with fail
        refine CR.mono ?_
        rintro x w5 ⟨rfl, hs5, hc5⟩
        have HAT := Lib.hid hs5
        have HC := Lib.hid ((Chg.of_below (F := (fun k => k = g)) HB4.out).trans hc5 (fun i hi => .inl hi))
        clear CR hs5 hc5
        go_wp2_with fail
        go_ret
        exact ⟨rfl, HAT.out, HC.out⟩
      · go_enter Try.func10, Try.ntmps10
        go_upto_region 1 with (first | ((with_reducible refine wpList_plain ?_ ?_); exact rfl; intro KK hKK; refine wp_st_box HS 30 (.tmp 1) rfl _ rfl (pktA 2 e s (.slice D q f)) (rfl) (fun g1 W1 HSx => hKK _ _ ?_); clear hKK KK HS; have HS : St w noF [⟨g1, 30, pktA 2 e s (.slice D q f)⟩] W1 := HSx; clear HSx))
        have c0 : W1.cell? ⟨g1, 0, none⟩ = some (.int .i64 2) := (HS.row 0 rfl).get rfl
        have HB := Lib.hid HS.below
        go_wp2_with (first | ((with_reducible refine wpList_plain ?_ ?_); exact rfl; intro KK hKK; refine wp_st_load HS 0 0 30 (.tmp 3) rfl rfl rfl (pktA 2 e s (.slice D q f)) (slab_whole _) _ Try.underlying30 rfl (by exact size_pkt) (hKK _ _ ?_); clear hKK KK))
        refine (C.out _ HB.out).mono ?_
        rintro x w2 ⟨v2, rfl, _, hb⟩
        have HB2 := Lib.hid (HB.out.trans (hb.mono HB.out.size))
        have HSx := HS.same hb
        clear HS hb C c0
        have HG := st_only (HR.out.call HB2.out)
        go_wp2_with (first | ((with_reducible refine wpList_plain ?_ ?_); exact rfl; intro KK hKK; refine wp_st_load HG 0 0 30 (.tmp 28) rfl rfl rfl (pktA S.o.k S.o.e S.o.s (.slice A n c)) (by exact rfl) _ Try.underlying30 rfl (by exact size_pkt) (hKK _ _ ?_); clear hKK KK))
        refine (CI.out _).mono ?_
        rintro x w3 ⟨rfl, hb⟩
        have HB3 := Lib.hid (HB2.out.trans (hb.mono HB2.out.size))
        have HS := HSx.same hb
        clear HSx HG hb CI
        have CC := copied_any 2 e s D q f l w3 (HPN.out.below HB3.out (Nat.le_refl _)) (by have := HLq.out; omega)
        go_wp2_with (first | ((with_reducible refine wpList_plain ?_ ?_); exact rfl; intro KK hKK; refine wp_st_load HS 0 0 30 (.tmp 3) rfl rfl rfl (pktA 2 e s (.slice D q f)) (slab_whole _) _ Try.underlying30 rfl (by exact size_pkt) (hKK _ _ ?_); clear hKK KK))
        refine CC.mono ?_
        rintro x w4 ⟨D2, q2, f2, rfl, hp2, hb⟩
        have HB4 := Lib.hid (HB3.out.trans (hb.mono HB3.out.size))
        have CR := replace_any g S ⟨2, e, s, l⟩ D2 q2 f2 w4 (SndAt.call ⟨A, n, c, B, m, d, HR.out, HPO.out, HPP.out⟩ HB4.out) hp2
        simp only at CR
        clear HS hb CC hp2
        go_wp2_with fail
        refine CR.mono ?_
        rintro x w5 ⟨rfl, hs5, hc5⟩
        have HAT := Lib.hid hs5
        have HC := Lib.hid ((Chg.of_below (F := (fun k => k = g)) HB4.out).trans hc5 (fun i hi => .inl hi))
        clear CR hs5 hc5
        go_wp2_with fail
        go_ret
        exact ⟨rfl, HAT.out, HC.out⟩
    · have hE : sendE S p = 19 := by unfold sendE; rw [HOK.out, if_pos rfl, if_neg h0]
      have hS : sendS S p = S := if_neg (fun h => h0 h.2)
      rw [hE, hS]
      rw [decide_eq_true h0] at CI
      clear hE hS h0 hO
      obtain ⟨k, e, s, l⟩ := p
      simp only at hk HPN C ⊢
      have HS := St.nil w noF
      rcases hk with rfl | rfl
      · go_enter Try.func10, Try.ntmps10
        go_upto_region 1 with (first | ((with_reducible refine wpList_plain ?_ ?_); exact rfl; intro KK hKK; refine wp_st_box HS 30 (.tmp 1) rfl _ rfl (pktA 1 e s (.slice D q f)) (rfl) (fun g1 W1 HSx => hKK _ _ ?_); clear hKK KK HS; have HS : St w noF [⟨g1, 30, pktA 1 e s (.slice D q f)⟩] W1 := HSx; clear HSx))
        have c0 : W1.cell? ⟨g1, 0, none⟩ = some (.int .i64 1) := (HS.row 0 rfl).get rfl
        have HB := Lib.hid HS.below
        go_wp2_with (first | ((with_reducible refine wpList_plain ?_ ?_); exact rfl; intro KK hKK; refine wp_st_load HS 0 0 30 (.tmp 3) rfl rfl rfl (pktA 1 e s (.slice D q f)) (slab_whole _) _ Try.underlying30 rfl (by exact size_pkt) (hKK _ _ ?_); clear hKK KK))
        refine (C.out _ HB.out).mono ?_
        rintro x w2 ⟨v2, rfl, _, hb⟩
        have HB2 := Lib.hid (HB.out.trans (hb.mono HB.out.size))
        clear HS hb C c0
        have HG := st_only (HR.out.call HB2.out)
        go_wp2_with (first | ((with_reducible refine wpList_plain ?_ ?_); exact rfl; intro KK hKK; refine wp_st_load HG 0 0 30 (.tmp 28) rfl rfl rfl (pktA S.o.k S.o.e S.o.s (.slice A n c)) (by exact rfl) _ Try.underlying30 rfl (by exact size_pkt) (hKK _ _ ?_); clear hKK KK))
        refine (CI.out _).mono ?_
        rintro x w3 ⟨rfl, hb⟩
        have HB3 := Lib.hid (HB2.out.trans (hb.mono HB2.out.size))
        clear HG hb CI
        go_wp2_with fail
        go_ret
        exact ⟨rfl, SndAt.call ⟨A, n, c, B, m, d, HR.out, HPO.out, HPP.out⟩ HB3.out, Chg.of_below HB3.out⟩
      · go_enter Try.func10, Try.ntmps10
        go_upto_region 1 with (first | ((with_reducible refine wpList_plain ?_ ?_); exact rfl; intro KK hKK; refine wp_st_box HS 30 (.tmp 1) rfl _ rfl (pktA 2 e s (.slice D q f)) (rfl) (fun g1 W1 HSx => hKK _ _ ?_); clear hKK KK HS; have HS : St w noF [⟨g1, 30, pktA 2 e s (.slice D q f)⟩] W1 := HSx; clear HSx))
        have c0 : W1.cell? ⟨g1, 0, none⟩ = some (.int .i64 2) := (HS.row 0 rfl).get rfl
        have HB := Lib.hid HS.below
        go_wp2_with (first | ((with_reducible refine wpList_plain ?_ ?_); exact rfl; intro KK hKK; refine wp_st_load HS 0 0 30 (.tmp 3) rfl rfl rfl (pktA 2 e s (.slice D q f)) (slab_whole _) _ Try.underlying30 rfl (by exact size_pkt) (hKK _ _ ?_); clear hKK KK))
        refine (C.out _ HB.out).mono ?_
        rintro x w2 ⟨v2, rfl, _, hb⟩
        have HB2 := Lib.hid (HB.out.trans (hb.mono HB.out.size))
        clear HS hb C c0
        have HG := st_only (HR.out.call HB2.out)
        go_wp2_with (first | ((with_reducible refine wpList_plain ?_ ?_); exact rfl; intro KK hKK; refine wp_st_load HG 0 0 30 (.tmp 28) rfl rfl rfl (pktA S.o.k S.o.e S.o.s (.slice A n c)) (by exact rfl) _ Try.underlying30 rfl (by exact size_pkt) (hKK _ _ ?_); clear hKK KK))
        refine (CI.out _).mono ?_
        rintro x w3 ⟨rfl, hb⟩
        have HB3 := Lib.hid (HB2.out.trans (hb.mono HB2.out.size))
        clear HG hb CI
        go_wp2_with fail
        go_ret
        exact ⟨rfl, SndAt.call ⟨A, n, c, B, m, d, HR.out, HPO.out, HPP.out⟩ HB3.out, Chg.of_below HB3.out⟩
end Go.Proofs.Ytppbgkdkioldbaa
