/- Merged: SndRef SndRefT SndTwo. -/
import Derived.Test.YtppbgkdkioldbaaMWal0
import Derived.Test.YtppbgkdkioldbaaMGen1
/- The document's sender: is a packet good; Missed, Stop, Acked, Send, Pick. -/
set_option maxRecDepth 4000
namespace Go.Proofs.Ytppbgkdkioldbaa
open Go Go.RowKit
def rsnC (iz wz : Bool) (o p : Pkt) (u v : Value) (n : Int) (t : Bool) : Array Value := #[.bool iz, .bool wz, .int .i64 o.k, .int .u32 (wd o.e), .int .u32 (wd o.s), u, .int .i64 p.k, .int .u32 (wd p.e), .int .u32 (wd p.s), v, .int .i64 n, .bool t]
theorem size_rsn : (Try.prog.info? 35).map (·.size) = some 12 := by kernel_rfl
theorem nou8_rsn (iz wz : Bool) (o p : Pkt) (A B : Option Addr) (n c m d : Nat) (z : Int) (t : Bool) : NoU8 (rsnC iz wz o p (.slice A n c) (.slice B m d) z t) := nou8_list (by simp)
def RsnAt (W : World) (g : Nat) (S : Snd) : Prop := ∃ A n c B m d iz wz, Row W g 35 (rsnC iz wz S.o S.p (.slice A n c) (.slice B m d) S.n S.t) ∧ PutsAt W (.slice A n c) S.o.l ∧ PutsAt W (.slice B m d) S.p.l ∧ iz = decide (S.o.k ≠ 0) ∧ wz = decide (S.p.k ≠ 0)
theorem RsnAt.call {W W' : World} {g : Nat} {S : Snd} (h : RsnAt W g S) (hb : Below W.heap.size W W') : RsnAt W' g S := by
  obtain ⟨A, n, c, B, m, d, iz, wz, h1, h2, h3, h4⟩ := h
  exact ⟨A, n, c, B, m, d, iz, wz, h1.call hb, h2.below hb (Nat.le_refl _), h3.below hb (Nat.le_refl _), h4⟩
set_option maxHeartbeats 800000 in
theorem rmay_any (p : Pkt) (v : Value) (w : World) (hv : PutsAt w v p.l) (hl : p.l.length ≤ maxLen) : Calls Try.prog 31 #[.agg (pktA p.k p.e p.s v)] w fun x w' => x = .returned (.bool (mayP p)) ∧ Below w.heap.size w w' := by
  obtain ⟨k, e, s, l⟩ := p
  obtain ⟨A, n, c, rfl, hn, _⟩ := puts_form hv
  obtain ⟨G, hG⟩ : ∃ G, mayP ⟨k, e, s, l⟩ = G := ⟨_, rfl⟩
  rw [hG]
  unfold mayP at hG
  simp only at hG hv hl
  have HV := Lib.hid hv
  have HL := Lib.hid hl
  have HN := Lib.hid hn
  have HG := Lib.hid hG
  clear hv hl hn hG
  have HS := St.nil w noF
  go_enter Try.func31, Try.ntmps31
  go_upto_region 1 with (first | ((with_reducible refine wpList_plain ?_ ?_); exact rfl; intro KK hKK; refine wp_st_box HS 30 (.tmp 0) rfl _ rfl (pktA k e s (.slice A n c)) (rfl) (fun g1 W1 HSx => hKK _ _ ?_); clear hKK KK HS; have HS : St w noF [⟨g1, 30, pktA k e s (.slice A n c)⟩] W1 := HSx; clear HSx))
  have c0 : W1.cell? ⟨g1, 0, none⟩ = some (.int .i64 k) := (HS.row 0 rfl).get rfl
  have c3 : W1.cell? ⟨g1, 3, none⟩ = some (.slice A n c) := (HS.row 0 rfl).get rfl
  have HB := Lib.hid HS.below
  have C := Lib.hid (refgood_any l _ W1 (HV.out.below HS.below (Nat.le_refl _)) HL.out)
  clear HS
  by_cases h12 : k = 1 ∨ k = 2
  · have hG : goodB (l.map (·.1)) = G := by rw [← HG.out, if_pos h12]
    have C := C.out
    rw [hG] at C
    clear hG HG
    rcases h12 with rfl | rfl
    all_goals
      go_wp2_with fail
      refine C.mono ?_
      rintro x w2 ⟨rfl, hb⟩
      have HB2 := Lib.hid (HB.out.trans (hb.mono HB.out.size))
      clear hb C
      go_wp2_with fail
      go_ret
      exact ⟨rfl, HB2.out⟩
  by_cases h34 : k = 3 ∨ k = 4
  · have hG : decide (n = 0) = G := by rw [← HG.out, if_neg h12, if_pos h34, HN.out]
    clear HG C
    cases n with
    | zero =>
      rw [decide_eq_true rfl] at hG
      subst hG
      rcases h34 with rfl | rfl
      all_goals
        go_wp2_with fail
        go_ret
        exact ⟨rfl, HB.out⟩
    | succ n =>
      rw [decide_eq_false (Nat.succ_ne_zero n)] at hG
      subst hG
      have hq : ((n + 1 : Nat) : Int) ≠ 0 := by omega
      rcases h34 with rfl | rfl
      all_goals
        go_wp2_with fail
        go_ret
        exact ⟨rfl, HB.out⟩
  have hG : false = G := by rw [← HG.out, if_neg h12, if_neg h34]
  subst hG
  have h1 : k ≠ 1 := fun h => h12 (.inl h)
  have h2 : k ≠ 2 := fun h => h12 (.inr h)
  have h3 : k ≠ 3 := fun h => h34 (.inl h)
  have h4 : k ≠ 4 := fun h => h34 (.inr h)
  clear HG C h12 h34
  go_wp2_with fail
  go_ret
  exact ⟨rfl, HB.out⟩
set_option maxHeartbeats 1600000 in
theorem rmissed_any (g : Nat) (S : Snd) (w : World) (h : RsnAt w g S) (hn : 0 ≤ S.n ∧ S.n ≤ 1000000) :
    Calls Try.prog 14 #[.pointer (some ⟨g, 0, none⟩)] w fun x w' => x = .returned (.int .i64 (missN S)) ∧ RsnAt w' g (missS S) ∧ Chg (fun k => k = g) w w' := by
  obtain ⟨A, n, c, B, m, d, iz, wz, hr, hpo, hpp, hiz, hwz⟩ := h
  have HR := Lib.hid hr
  have HPO := Lib.hid hpo
  have HPP := Lib.hid hpp
  have HIZ := Lib.hid hiz
  have HWZ := Lib.hid hwz
  clear hr hpo hpp hiz hwz
  have hw : IntKind.i64.wrap (S.n + 1) = S.n + 1 := by rw [IntKind.wrap_i64]; omega
  have c0 : w.cell? ⟨g, 0, none⟩ = some (.bool iz) := HR.out.get rfl
  by_cases h0 : S.o.k = 0
  · have hS : missS S = S := if_pos h0
    have hN : missN S = 0 := if_pos h0
    obtain rfl : iz = false := by rw [HIZ.out]; exact decide_eq_false (by simp [h0])
    rw [hS, hN]
    clear hS hN h0
    go_enter Try.func14, Try.ntmps14
    go_wp2_with fail
    go_ret
    exact ⟨rfl, ⟨A, n, c, B, m, d, false, wz, HR.out, HPO.out, HPP.out, HIZ.out, HWZ.out⟩, Chg.refl _ _⟩
  · have hS : missS S = ⟨S.o, S.p, S.n + 1, S.t⟩ := if_neg h0
    have hN : missN S = S.n + 1 := if_neg h0
    obtain rfl : iz = true := by rw [HIZ.out]; exact decide_eq_true h0
    rw [hS, hN]
    clear hS hN h0
    have c10 : w.cell? ⟨g, 10, none⟩ = some (.int .i64 S.n) := HR.out.get rfl
    have HS := st_only HR.out
    go_enter Try.func14, Try.ntmps14
    go_upto_region 4 with (first | ((with_reducible refine wpList_plain ?_ ?_); exact rfl; intro KK hKK; refine wp_st_put HS 0 10 3 (.tmp 14) (.tmp 12) rfl rfl rfl (.int .i64 (S.n + 1)) rfl (by kernel_rfl) rfl rfl (by show 10 < 12; decide) (rsnC true wz S.o S.p (.slice A n c) (.slice B m d) (S.n + 1) S.t) (by exact rfl) (fun W1 HSx => hKK _ _ ?_); clear hKK KK HS; have HS : St w (fun k => k = g) [⟨g, 35, rsnC true wz S.o S.p (.slice A n c) (.slice B m d) (S.n + 1) S.t⟩] W1 := HSx; clear HSx))
    have c11 : W1.cell? ⟨g, 10, none⟩ = some (.int .i64 (S.n + 1)) := (HS.row 0 rfl).get rfl
    have HAT : Hid (RsnAt W1 g ⟨S.o, S.p, S.n + 1, S.t⟩) := Lib.hid ⟨A, n, c, B, m, d, true, wz, HS.row 0 rfl, puts_keep HPO.out HS.chg (fun y hy _ => by subst hy; exact ⟨_, _, HR.out, nou8_rsn _ _ _ _ _ _ _ _ _ _ _ _⟩), puts_keep HPP.out HS.chg (fun y hy _ => by subst hy; exact ⟨_, _, HR.out, nou8_rsn _ _ _ _ _ _ _ _ _ _ _ _⟩), HIZ.out, HWZ.out⟩
    have HC := Lib.hid HS.chg
    clear HS c0 c10
    go_wp2_with fail
    go_ret
    exact ⟨rfl, HAT.out, HC.out⟩
set_option maxHeartbeats 1600000 in
theorem rstop_any (g : Nat) (S : Snd) (b : Bool) (w : World) (h : RsnAt w g S) :
    Calls Try.prog 20 #[.pointer (some ⟨g, 0, none⟩), .bool b] w fun x w' => x = .returned (.tuple #[]) ∧ RsnAt w' g (stopS S b) ∧ Chg (fun k => k = g) w w' := by
  obtain ⟨A, n, c, B, m, d, iz, wz, hr, hpo, hpp, hiz, hwz⟩ := h
  have HR := Lib.hid hr
  have HPO := Lib.hid hpo
  have HPP := Lib.hid hpp
  have HIZ := Lib.hid hiz
  have HWZ := Lib.hid hwz
  clear hr hpo hpp hiz hwz
  have HS := st_only HR.out
  cases b with
  | false =>
    go_enter Try.func20, Try.ntmps20
    go_upto_region 4 with (first | ((with_reducible refine wpList_plain ?_ ?_); exact rfl; intro KK hKK; refine wp_st_put HS 0 1 4 (.tmp 11) (.const (.bool false)) rfl rfl rfl (.bool false) rfl (by kernel_rfl) rfl rfl (by show 1 < 12; decide) (rsnC iz false S.o S.p (.slice A n c) (.slice B m d) S.n S.t) (by exact rfl) (fun W1 HSx => hKK _ _ ?_); clear hKK KK HS; have HS : St w (fun k => k = g) [⟨g, 35, rsnC iz false S.o S.p (.slice A n c) (.slice B m d) S.n S.t⟩] W1 := HSx; clear HSx) | ((with_reducible refine wpList_plain ?_ ?_); exact rfl; intro KK hKK; refine wp_st_store HS 0 6 30 (.tmp 13) (.tmp 9) rfl rfl rfl (.agg #[.int .i64 0, .int .u32 0, .int .u32 0, .slice none 0 0]) rfl (by exact size_pkt) (by show 6 + 4 ≤ 12; decide) (by simp [Value.cells, Value.oneCell']) (rsnC iz false S.o pkt0 (.slice A n c) (.slice none 0 0) S.n S.t) (by exact rfl) (fun W2 HSx => hKK _ _ ?_); clear hKK KK HS; have HS : St w (fun k => k = g) [⟨g, 35, rsnC iz false S.o pkt0 (.slice A n c) (.slice none 0 0) S.n S.t⟩] W2 := HSx; clear HSx))
    go_wp2_with (first | ((with_reducible refine wpList_plain ?_ ?_); exact rfl; intro KK hKK; refine wp_st_put HS 0 0 4 (.tmp 35) (.const (.bool false)) rfl rfl rfl (.bool false) rfl (by kernel_rfl) rfl rfl (by show 0 < 12; decide) (rsnC false false S.o pkt0 (.slice A n c) (.slice none 0 0) S.n S.t) (by exact rfl) (fun W41 HSx => hKK _ _ ?_); clear hKK KK HS; have HS : St w (fun k => k = g) [⟨g, 35, rsnC false false S.o pkt0 (.slice A n c) (.slice none 0 0) S.n S.t⟩] W41 := HSx; clear HSx) | ((with_reducible refine wpList_plain ?_ ?_); exact rfl; intro KK hKK; refine wp_st_store HS 0 2 30 (.tmp 37) (.tmp 33) rfl rfl rfl (.agg #[.int .i64 0, .int .u32 0, .int .u32 0, .slice none 0 0]) rfl (by exact size_pkt) (by show 2 + 4 ≤ 12; decide) (by simp [Value.cells, Value.oneCell']) (rsnC false false pkt0 pkt0 (.slice none 0 0) (.slice none 0 0) S.n S.t) (by exact rfl) (fun W42 HSx => hKK _ _ ?_); clear hKK KK HS; have HS : St w (fun k => k = g) [⟨g, 35, rsnC false false pkt0 pkt0 (.slice none 0 0) (.slice none 0 0) S.n S.t⟩] W42 := HSx; clear HSx) | ((with_reducible refine wpList_plain ?_ ?_); exact rfl; intro KK hKK; refine wp_st_put HS 0 10 3 (.tmp 39) (.const (.int .i64 0)) rfl rfl rfl (.int .i64 0) rfl (by kernel_rfl) rfl rfl (by show 10 < 12; decide) (rsnC false false pkt0 pkt0 (.slice none 0 0) (.slice none 0 0) 0 S.t) (by exact rfl) (fun W43 HSx => hKK _ _ ?_); clear hKK KK HS; have HS : St w (fun k => k = g) [⟨g, 35, rsnC false false pkt0 pkt0 (.slice none 0 0) (.slice none 0 0) 0 S.t⟩] W43 := HSx; clear HSx) | ((with_reducible refine wpList_plain ?_ ?_); exact rfl; intro KK hKK; refine wp_st_put HS 0 11 4 (.tmp 41) (.const (.bool false)) rfl rfl rfl (.bool false) rfl (by kernel_rfl) rfl rfl (by show 11 < 12; decide) (rsnC false false pkt0 pkt0 (.slice none 0 0) (.slice none 0 0) 0 false) (by exact rfl) (fun W44 HSx => hKK _ _ ?_); clear hKK KK HS; have HS : St w (fun k => k = g) [⟨g, 35, rsnC false false pkt0 pkt0 (.slice none 0 0) (.slice none 0 0) 0 false⟩] W44 := HSx; clear HSx))
    go_end0
    exact ⟨rfl, ⟨none, 0, 0, none, 0, 0, false, false, HS.row 0 rfl, puts_nil _, puts_nil _, rfl, rfl⟩, HS.chg⟩
  | true =>
    have c0 : w.cell? ⟨g, 0, none⟩ = some (.bool iz) := HR.out.get rfl
    by_cases h0 : S.o.k = 0
    · have hS : stopS S true = ⟨pkt0, S.p, 0, false⟩ := by unfold stopS; rw [if_pos rfl, if_pos h0]
      obtain rfl : iz = false := by rw [HIZ.out]; exact decide_eq_false (by simp [h0])
      rw [hS]
      clear hS h0
      go_enter Try.func20, Try.ntmps20
      go_upto_region 4 with fail
      clear c0
      go_wp2_with (first | ((with_reducible refine wpList_plain ?_ ?_); exact rfl; intro KK hKK; refine wp_st_put HS 0 0 4 (.tmp 35) (.const (.bool false)) rfl rfl rfl (.bool false) rfl (by kernel_rfl) rfl rfl (by show 0 < 12; decide) (rsnC false wz S.o S.p (.slice A n c) (.slice B m d) S.n S.t) (by exact rfl) (fun W41 HSx => hKK _ _ ?_); clear hKK KK HS; have HS : St w (fun k => k = g) [⟨g, 35, rsnC false wz S.o S.p (.slice A n c) (.slice B m d) S.n S.t⟩] W41 := HSx; clear HSx) | ((with_reducible refine wpList_plain ?_ ?_); exact rfl; intro KK hKK; refine wp_st_store HS 0 2 30 (.tmp 37) (.tmp 33) rfl rfl rfl (.agg #[.int .i64 0, .int .u32 0, .int .u32 0, .slice none 0 0]) rfl (by exact size_pkt) (by show 2 + 4 ≤ 12; decide) (by simp [Value.cells, Value.oneCell']) (rsnC false wz pkt0 S.p (.slice none 0 0) (.slice B m d) S.n S.t) (by exact rfl) (fun W42 HSx => hKK _ _ ?_); clear hKK KK HS; have HS : St w (fun k => k = g) [⟨g, 35, rsnC false wz pkt0 S.p (.slice none 0 0) (.slice B m d) S.n S.t⟩] W42 := HSx; clear HSx) | ((with_reducible refine wpList_plain ?_ ?_); exact rfl; intro KK hKK; refine wp_st_put HS 0 10 3 (.tmp 39) (.const (.int .i64 0)) rfl rfl rfl (.int .i64 0) rfl (by kernel_rfl) rfl rfl (by show 10 < 12; decide) (rsnC false wz pkt0 S.p (.slice none 0 0) (.slice B m d) 0 S.t) (by exact rfl) (fun W43 HSx => hKK _ _ ?_); clear hKK KK HS; have HS : St w (fun k => k = g) [⟨g, 35, rsnC false wz pkt0 S.p (.slice none 0 0) (.slice B m d) 0 S.t⟩] W43 := HSx; clear HSx) | ((with_reducible refine wpList_plain ?_ ?_); exact rfl; intro KK hKK; refine wp_st_put HS 0 11 4 (.tmp 41) (.const (.bool false)) rfl rfl rfl (.bool false) rfl (by kernel_rfl) rfl rfl (by show 11 < 12; decide) (rsnC false wz pkt0 S.p (.slice none 0 0) (.slice B m d) 0 false) (by exact rfl) (fun W44 HSx => hKK _ _ ?_); clear hKK KK HS; have HS : St w (fun k => k = g) [⟨g, 35, rsnC false wz pkt0 S.p (.slice none 0 0) (.slice B m d) 0 false⟩] W44 := HSx; clear HSx))
      go_end0
      exact ⟨rfl, ⟨none, 0, 0, B, m, d, false, wz, HS.row 0 rfl, puts_nil _, puts_keep HPP.out HS.chg (fun y hy _ => by subst hy; exact ⟨_, _, HR.out, nou8_rsn _ _ _ _ _ _ _ _ _ _ _ _⟩), rfl, HWZ.out⟩, HS.chg⟩
    · have hS : stopS S true = ⟨pkt0, S.o, 0, false⟩ := by unfold stopS; rw [if_pos rfl, if_neg h0]
      obtain rfl : iz = true := by rw [HIZ.out]; exact decide_eq_true h0
      rw [hS]
      clear hS
      have H0 := Lib.hid h0
      clear h0
      go_enter Try.func20, Try.ntmps20
      go_upto_region 3 with fail
      clear c0
      go_upto_region 4 with (first | ((with_reducible refine wpList_plain ?_ ?_); exact rfl; intro KK hKK; refine wp_st_load HS 0 2 30 (.tmp 23) rfl rfl rfl (pktA S.o.k S.o.e S.o.s (.slice A n c)) (by exact rfl) _ Try.underlying30 rfl (by exact size_pkt) (hKK _ _ ?_); clear hKK KK) | ((with_reducible refine wpList_plain ?_ ?_); exact rfl; intro KK hKK; refine wp_st_put HS 0 1 4 (.tmp 26) (.const (.bool true)) rfl rfl rfl (.bool true) rfl (by kernel_rfl) rfl rfl (by show 1 < 12; decide) (rsnC true true S.o S.p (.slice A n c) (.slice B m d) S.n S.t) (by exact rfl) (fun W21 HSx => hKK _ _ ?_); clear hKK KK HS; have HS : St w (fun k => k = g) [⟨g, 35, rsnC true true S.o S.p (.slice A n c) (.slice B m d) S.n S.t⟩] W21 := HSx; clear HSx) | ((with_reducible refine wpList_plain ?_ ?_); exact rfl; intro KK hKK; refine wp_st_store HS 0 6 30 (.tmp 28) (.tmp 24) rfl rfl rfl (.agg (pktA S.o.k S.o.e S.o.s (.slice A n c))) rfl (by exact size_pkt) (by show 6 + 4 ≤ 12; decide) (pkt_one ..) (rsnC true true S.o S.o (.slice A n c) (.slice A n c) S.n S.t) (by exact rfl) (fun W22 HSx => hKK _ _ ?_); clear hKK KK HS; have HS : St w (fun k => k = g) [⟨g, 35, rsnC true true S.o S.o (.slice A n c) (.slice A n c) S.n S.t⟩] W22 := HSx; clear HSx))
      go_wp2_with (first | ((with_reducible refine wpList_plain ?_ ?_); exact rfl; intro KK hKK; refine wp_st_put HS 0 0 4 (.tmp 35) (.const (.bool false)) rfl rfl rfl (.bool false) rfl (by kernel_rfl) rfl rfl (by show 0 < 12; decide) (rsnC false true S.o S.o (.slice A n c) (.slice A n c) S.n S.t) (by exact rfl) (fun W41 HSx => hKK _ _ ?_); clear hKK KK HS; have HS : St w (fun k => k = g) [⟨g, 35, rsnC false true S.o S.o (.slice A n c) (.slice A n c) S.n S.t⟩] W41 := HSx; clear HSx) | ((with_reducible refine wpList_plain ?_ ?_); exact rfl; intro KK hKK; refine wp_st_store HS 0 2 30 (.tmp 37) (.tmp 33) rfl rfl rfl (.agg #[.int .i64 0, .int .u32 0, .int .u32 0, .slice none 0 0]) rfl (by exact size_pkt) (by show 2 + 4 ≤ 12; decide) (by simp [Value.cells, Value.oneCell']) (rsnC false true pkt0 S.o (.slice none 0 0) (.slice A n c) S.n S.t) (by exact rfl) (fun W42 HSx => hKK _ _ ?_); clear hKK KK HS; have HS : St w (fun k => k = g) [⟨g, 35, rsnC false true pkt0 S.o (.slice none 0 0) (.slice A n c) S.n S.t⟩] W42 := HSx; clear HSx) | ((with_reducible refine wpList_plain ?_ ?_); exact rfl; intro KK hKK; refine wp_st_put HS 0 10 3 (.tmp 39) (.const (.int .i64 0)) rfl rfl rfl (.int .i64 0) rfl (by kernel_rfl) rfl rfl (by show 10 < 12; decide) (rsnC false true pkt0 S.o (.slice none 0 0) (.slice A n c) 0 S.t) (by exact rfl) (fun W43 HSx => hKK _ _ ?_); clear hKK KK HS; have HS : St w (fun k => k = g) [⟨g, 35, rsnC false true pkt0 S.o (.slice none 0 0) (.slice A n c) 0 S.t⟩] W43 := HSx; clear HSx) | ((with_reducible refine wpList_plain ?_ ?_); exact rfl; intro KK hKK; refine wp_st_put HS 0 11 4 (.tmp 41) (.const (.bool false)) rfl rfl rfl (.bool false) rfl (by kernel_rfl) rfl rfl (by show 11 < 12; decide) (rsnC false true pkt0 S.o (.slice none 0 0) (.slice A n c) 0 false) (by exact rfl) (fun W44 HSx => hKK _ _ ?_); clear hKK KK HS; have HS : St w (fun k => k = g) [⟨g, 35, rsnC false true pkt0 S.o (.slice none 0 0) (.slice A n c) 0 false⟩] W44 := HSx; clear HSx))
      go_end0
      exact ⟨rfl, ⟨none, 0, 0, A, n, c, false, true, HS.row 0 rfl, puts_nil _, puts_keep HPO.out HS.chg (fun y hy _ => by subst hy; exact ⟨_, _, HR.out, nou8_rsn _ _ _ _ _ _ _ _ _ _ _ _⟩), rfl, (decide_eq_true H0.out).symm⟩, HS.chg⟩
set_option maxRecDepth 20000 in
set_option maxHeartbeats 3200000 in
theorem racked_any (g : Nat) (S : Snd) (y : Pkt) (v : Value) (w : World) (h : RsnAt w g S) :
    Calls Try.prog 18 #[.pointer (some ⟨g, 0, none⟩), .agg (pktA y.k y.e y.s v)] w fun x w' => x = .returned (.tuple #[.bool (ackB S y && S.t), .bool (ackB S y)]) ∧ RsnAt w' g (ackS S y) ∧ Chg (fun k => k = g) w w' := by
  obtain ⟨A, n, c, B, m, d, iz, wz, hr, hpo, hpp, hiz, hwz⟩ := h
  have HR := Lib.hid hr
  have HPO := Lib.hid hpo
  have HPP := Lib.hid hpp
  have HIZ := Lib.hid hiz
  have HWZ := Lib.hid hwz
  clear hr hpo hpp hiz hwz
  have HS := St.nil w noF
  by_cases h0 : S.o.k = 0
  · have hB : ackB S y = false := by unfold ackB; rw [decide_eq_false (p := S.o.k ≠ 0) (by simp [h0])]; simp
    have hS : ackS S y = S := by unfold ackS; rw [hB]; exact if_neg (fun h => by cases h)
    rw [hB, hS]
    clear hB hS
    obtain rfl : iz = false := by rw [HIZ.out]; exact decide_eq_false (by simp [h0])
    clear h0
    go_enter Try.func18, Try.ntmps18
    go_upto_region 1 with (first | ((with_reducible refine wpList_plain ?_ ?_); exact rfl; intro KK hKK; refine wp_st_box HS 30 (.tmp 1) rfl _ rfl (pktA y.k y.e y.s v) (rfl) (fun g1 W1 HSx => hKK _ _ ?_); clear hKK KK HS; have HS : St w noF [⟨g1, 30, pktA y.k y.e y.s v⟩] W1 := HSx; clear HSx))
    have hF0 : Wl [(fun W => St w noF [⟨g1, 30, pktA y.k y.e y.s v⟩] W ∧ Row W g 35 (rsnC false wz S.o S.p (.slice A n c) (.slice B m d) S.n S.t))] 0 (World.drew _) := ⟨HS.same (Below.refl _ _).drew, (HR.out.call HS.below).call (Below.refl _ _).drew⟩
    clear HS
    refine wp_region_phs [is (.pointer (some ⟨g, 0, none⟩)), is (.pointer (some ⟨g, 0, none⟩)), is (.pointer (some ⟨g, 0, none⟩)), is (.bool false), is (.bool true), is (.bool true), is undef, is undef, is undef, is (.bool true), is (.bool true), is undef, is undef, is undef, is undef, is undef, is undef, is undef, is undef, is (.bool true), is (.bool true), is undef, is undef, is undef, is undef, is undef, is undef, is undef, is undef, is (.bool true)] [true, true, true, true, true, true, true, true, true, true, true, true, true, true, true, true, true, true, true, true, true, true, true, true, true, true, true, true, true, true] [(fun W => St w noF [⟨g1, 30, pktA y.k y.e y.s v⟩] W ∧ Row W g 35 (rsnC false wz S.o S.p (.slice A n c) (.slice B m d) S.n S.t))] [false, false, false, false, false, false, false, false, false, false, false, false, false, false, false, false, false, false, false, false, false, false, false, false, false, false, false, false, false, false] [some 0, some 0, some 0, some 0, some 0, some 0, some 0, some 0, some 0, some 0, some 0, some 0, some 0, some 0, some 0, some 0, some 0, some 0, some 0, some 0, some 0, some 0, some 0, some 0, some 0, some 0, some 0, some 0, some 0, some 0] [some 7, some 8, some 9, some 10, some 11, some 12, some 13, some 14, some 15, some 16, some 17, some 18, some 19, some 20, some 21, some 22, some 23, some 24, some 25, some 26, some 27, some 28, some 29, some 30, some 31, some 32, some 33, some 34, some 35, some 36] 30 0 (fun i => !([6, 7, 8, 11, 12, 13, 14, 15, 16, 17, 18, 21, 22, 23, 24, 25, 26, 27, 28] : List Nat).contains i) rfl rfl (by kernel_rfl) (by kernel_rfl) (by kernel_rfl) (by kernel_rfl) ?_ ?_ ?_ ?_ ?_ ?_
    · repeat first | exact wok_nil | refine wok_cons (by first | exact fun _ _ h k => ⟨h.1.same k, h.2.call k⟩) ?_
    · repeat first | exact vok_nil | refine vok_rig (by first | exact fun _ _ _ h => h) ?_ | refine vok_soft (by first | exact fun _ _ _ h _ => h) ?_
    · exact hF0
    · repeat first | exact all_end (by decide) | refine all_cons (by first | exact rfl | exact ⟨rfl, fun _ _ h => Or.inl h⟩ | exact ⟨rfl, fun _ _ h => Or.inr ⟨h, rfl⟩⟩) ?_
    · refine allp_mild 0 rfl rfl rfl (fun a x_ W hout hin hP => ?_) ?_
      · have e0 : a.tmps[0]? = some (.pointer (some ⟨g, 0, none⟩)) := (hout 0 (by kernel_rfl)).trans rfl
        exact does_move rfl e0 ⟨Same.refl _, rfl⟩
      refine allp_mild 0 rfl rfl rfl (fun a x_ W hout hin hP => ?_) ?_
      · have e7 := hin.is 0 7 (by kernel_rfl) (by decide) (by kernel_rfl) (by kernel_rfl) _ rfl
        clear hP
        clear hin hout
        intro K Q hK
        go_simp
        exact hK _ _ ⟨Same.refl _, rfl⟩
      refine allp_mild 0 rfl rfl rfl (fun a x_ W hout hin hP => ?_) ?_
      · have e8 := hin.is 1 8 (by kernel_rfl) (by decide) (by kernel_rfl) (by kernel_rfl) _ rfl
        clear hP
        clear hin hout
        intro K Q hK
        go_simp
        exact hK _ _ ⟨Same.refl _, rfl⟩
      refine allp_mild 0 rfl rfl rfl (fun a x_ W hout hin hP => ?_) ?_
      · have e9 := hin.is 2 9 (by kernel_rfl) (by decide) (by kernel_rfl) (by kernel_rfl) _ rfl
        have hc : W.cell? ⟨g, 0, none⟩ = some (.bool false) := hP.2.get rfl
        clear hP
        clear hin hout
        intro K Q hK
        go_simp
        exact hK _ _ ⟨Same.refl _, rfl⟩
      refine allp_mild 0 rfl rfl rfl (fun a x_ W hout hin hP => ?_) ?_
      · have e10 := hin.is 3 10 (by kernel_rfl) (by decide) (by kernel_rfl) (by kernel_rfl) _ rfl
        exact does_not rfl e10 ⟨Same.refl _, rfl⟩
      refine allp_mild 0 rfl rfl rfl (fun a x_ W hout hin hP => ?_) ?_
      · have e11 := hin.is 4 11 (by kernel_rfl) (by decide) (by kernel_rfl) (by kernel_rfl) _ rfl
        exact does_move rfl e11 ⟨Same.refl _, rfl⟩
      refine allp_skip rfl rfl (fun _ => rfl) ?_
      refine allp_skip rfl rfl (fun _ => rfl) ?_
      refine allp_skip rfl rfl (fun _ => rfl) ?_
      refine allp_mild 0 rfl rfl rfl (fun a x_ W hout hin hP => ?_) ?_
      · have e12 := hin.is 5 12 (by kernel_rfl) (by decide) (by kernel_rfl) (by kernel_rfl) _ rfl
        have e15 := hin.is 8 15 (by kernel_rfl) (by decide) (by kernel_rfl) (by kernel_rfl) _ rfl
        exact does_pick rfl e12 ⟨Same.refl _, rfl⟩
      refine allp_mild 0 rfl rfl rfl (fun a x_ W hout hin hP => ?_) ?_
      · have e16 := hin.is 9 16 (by kernel_rfl) (by decide) (by kernel_rfl) (by kernel_rfl) _ rfl
        exact does_move rfl e16 ⟨Same.refl _, rfl⟩
      refine allp_skip rfl rfl (fun _ => rfl) ?_
      refine allp_skip rfl rfl (fun _ => rfl) ?_
      refine allp_skip rfl rfl (fun _ => rfl) ?_
      refine allp_skip rfl rfl (fun _ => rfl) ?_
      refine allp_skip rfl rfl (fun _ => rfl) ?_
      refine allp_skip rfl rfl (fun _ => rfl) ?_
      refine allp_skip rfl rfl (fun _ => rfl) ?_
      refine allp_skip rfl rfl (fun _ => rfl) ?_
      refine allp_mild 0 rfl rfl rfl (fun a x_ W hout hin hP => ?_) ?_
      · have e17 := hin.is 10 17 (by kernel_rfl) (by decide) (by kernel_rfl) (by kernel_rfl) _ rfl
        have e25 := hin.is 18 25 (by kernel_rfl) (by decide) (by kernel_rfl) (by kernel_rfl) _ rfl
        exact does_pick rfl e17 ⟨Same.refl _, rfl⟩
      refine allp_mild 0 rfl rfl rfl (fun a x_ W hout hin hP => ?_) ?_
      · have e26 := hin.is 19 26 (by kernel_rfl) (by decide) (by kernel_rfl) (by kernel_rfl) _ rfl
        exact does_move rfl e26 ⟨Same.refl _, rfl⟩
      refine allp_skip rfl rfl (fun _ => rfl) ?_
      refine allp_skip rfl rfl (fun _ => rfl) ?_
      refine allp_skip rfl rfl (fun _ => rfl) ?_
      refine allp_skip rfl rfl (fun _ => rfl) ?_
      refine allp_skip rfl rfl (fun _ => rfl) ?_
      refine allp_skip rfl rfl (fun _ => rfl) ?_
      refine allp_skip rfl rfl (fun _ => rfl) ?_
      refine allp_skip rfl rfl (fun _ => rfl) ?_
      refine allp_mild 0 rfl rfl rfl (fun a x_ W hout hin hP => ?_) ?_
      · have e27 := hin.is 20 27 (by kernel_rfl) (by decide) (by kernel_rfl) (by kernel_rfl) _ rfl
        have e35 := hin.is 28 35 (by kernel_rfl) (by decide) (by kernel_rfl) (by kernel_rfl) _ rfl
        exact does_pick rfl e27 ⟨Same.refl _, rfl⟩
      exact all_end (by decide)
    · intro x_ W hP hV
      have h29 : x_ 29 = .bool true := hV 29 (by decide) (.inl (by kernel_rfl))
      have HST := Lib.hid hP.1
      have HRW := Lib.hid hP.2
      clear hP hV
      simp only [putL, Act.put, List.setIfInBounds_toArray, List.set_cons_succ, List.set_cons_zero, h29]
      refine wpAnyH_done (by kernel_rfl) ?_ _
      clear h29
      go_wp2_with fail
      go_ret2
      exact ⟨rfl, RsnAt.call ⟨A, n, c, B, m, d, false, wz, HR.out, HPO.out, HPP.out, HIZ.out, HWZ.out⟩ HST.out.below, Chg.of_below HST.out.below⟩
  obtain rfl : iz = true := by rw [HIZ.out]; exact decide_eq_true h0
  by_cases h1 : y.k = 3
  case neg =>
    have hB : ackB S y = false := by unfold ackB; rw [decide_eq_false h1]; simp
    have hS : ackS S y = S := by unfold ackS; rw [hB]; exact if_neg (fun h => by cases h)
    rw [hB, hS]
    clear hB hS
    have HQK : Hid ((y.k != 3) = true) := Lib.hid (bne_iff_ne.2 h1)
    clear h0 h1
    go_enter Try.func18, Try.ntmps18
    go_upto_region 1 with (first | ((with_reducible refine wpList_plain ?_ ?_); exact rfl; intro KK hKK; refine wp_st_box HS 30 (.tmp 1) rfl _ rfl (pktA y.k y.e y.s v) (rfl) (fun g1 W1 HSx => hKK _ _ ?_); clear hKK KK HS; have HS : St w noF [⟨g1, 30, pktA y.k y.e y.s v⟩] W1 := HSx; clear HSx))
    have hF0 : Wl [(fun W => St w noF [⟨g1, 30, pktA y.k y.e y.s v⟩] W ∧ Row W g 35 (rsnC true wz S.o S.p (.slice A n c) (.slice B m d) S.n S.t))] 0 (World.drew _) := ⟨HS.same (Below.refl _ _).drew, (HR.out.call HS.below).call (Below.refl _ _).drew⟩
    clear HS
    refine wp_region_phs [is (.pointer (some ⟨g, 0, none⟩)), is (.pointer (some ⟨g, 0, none⟩)), is (.pointer (some ⟨g, 0, none⟩)), is (.bool true), is (.bool false), is (.bool false), is (.pointer (some ⟨g1, 0, none⟩)), is (.int .i64 y.k), is (.bool true), is (.bool true), is (.bool true), is undef, is undef, is undef, is undef, is undef, is undef, is undef, is undef, is (.bool true), is (.bool true), is undef, is undef, is undef, is undef, is undef, is undef, is undef, is undef, is (.bool true)] [true, true, true, true, true, true, true, true, true, true, true, true, true, true, true, true, true, true, true, true, true, true, true, true, true, true, true, true, true, true] [(fun W => St w noF [⟨g1, 30, pktA y.k y.e y.s v⟩] W ∧ Row W g 35 (rsnC true wz S.o S.p (.slice A n c) (.slice B m d) S.n S.t))] [false, false, false, false, false, false, false, false, false, false, false, false, false, false, false, false, false, false, false, false, false, false, false, false, false, false, false, false, false, false] [some 0, some 0, some 0, some 0, some 0, some 0, some 0, some 0, some 0, some 0, some 0, some 0, some 0, some 0, some 0, some 0, some 0, some 0, some 0, some 0, some 0, some 0, some 0, some 0, some 0, some 0, some 0, some 0, some 0, some 0] [some 7, some 8, some 9, some 10, some 11, some 12, some 13, some 14, some 15, some 16, some 17, some 18, some 19, some 20, some 21, some 22, some 23, some 24, some 25, some 26, some 27, some 28, some 29, some 30, some 31, some 32, some 33, some 34, some 35, some 36] 30 0 (fun i => !([11, 12, 13, 14, 15, 16, 17, 18, 21, 22, 23, 24, 25, 26, 27, 28] : List Nat).contains i) rfl rfl (by kernel_rfl) (by kernel_rfl) (by kernel_rfl) (by kernel_rfl) ?_ ?_ ?_ ?_ ?_ ?_
    · repeat first | exact wok_nil | refine wok_cons (by first | exact fun _ _ h k => ⟨h.1.same k, h.2.call k⟩) ?_
    · repeat first | exact vok_nil | refine vok_rig (by first | exact fun _ _ _ h => h) ?_ | refine vok_soft (by first | exact fun _ _ _ h _ => h) ?_
    · exact hF0
    · repeat first | exact all_end (by decide) | refine all_cons (by first | exact rfl | exact ⟨rfl, fun _ _ h => Or.inl h⟩ | exact ⟨rfl, fun _ _ h => Or.inr ⟨h, rfl⟩⟩) ?_
    · refine allp_mild 0 rfl rfl rfl (fun a x_ W hout hin hP => ?_) ?_
      · have e0 : a.tmps[0]? = some (.pointer (some ⟨g, 0, none⟩)) := (hout 0 (by kernel_rfl)).trans rfl
        exact does_move rfl e0 ⟨Same.refl _, rfl⟩
      refine allp_mild 0 rfl rfl rfl (fun a x_ W hout hin hP => ?_) ?_
      · have e7 := hin.is 0 7 (by kernel_rfl) (by decide) (by kernel_rfl) (by kernel_rfl) _ rfl
        clear hP
        clear hin hout
        intro K Q hK
        go_simp
        exact hK _ _ ⟨Same.refl _, rfl⟩
      refine allp_mild 0 rfl rfl rfl (fun a x_ W hout hin hP => ?_) ?_
      · have e8 := hin.is 1 8 (by kernel_rfl) (by decide) (by kernel_rfl) (by kernel_rfl) _ rfl
        clear hP
        clear hin hout
        intro K Q hK
        go_simp
        exact hK _ _ ⟨Same.refl _, rfl⟩
      refine allp_mild 0 rfl rfl rfl (fun a x_ W hout hin hP => ?_) ?_
      · have e9 := hin.is 2 9 (by kernel_rfl) (by decide) (by kernel_rfl) (by kernel_rfl) _ rfl
        have hc : W.cell? ⟨g, 0, none⟩ = some (.bool true) := hP.2.get rfl
        clear hP
        clear hin hout
        intro K Q hK
        go_simp
        exact hK _ _ ⟨Same.refl _, rfl⟩
      refine allp_mild 0 rfl rfl rfl (fun a x_ W hout hin hP => ?_) ?_
      · have e10 := hin.is 3 10 (by kernel_rfl) (by decide) (by kernel_rfl) (by kernel_rfl) _ rfl
        exact does_not rfl e10 ⟨Same.refl _, rfl⟩
      refine allp_mild 0 rfl rfl rfl (fun a x_ W hout hin hP => ?_) ?_
      · have e11 := hin.is 4 11 (by kernel_rfl) (by decide) (by kernel_rfl) (by kernel_rfl) _ rfl
        exact does_move rfl e11 ⟨Same.refl _, rfl⟩
      refine allp_mild 0 rfl rfl rfl (fun a x_ W hout hin hP => ?_) ?_
      · have e3 : a.tmps[3]? = some (.pointer (some ⟨g1, 0, none⟩)) := (hout 3 (by kernel_rfl)).trans rfl
        clear hP
        clear hin hout
        intro K Q hK
        go_simp
        exact hK _ _ ⟨Same.refl _, rfl⟩
      refine allp_mild 0 rfl rfl rfl (fun a x_ W hout hin hP => ?_) ?_
      · have e13 := hin.is 6 13 (by kernel_rfl) (by decide) (by kernel_rfl) (by kernel_rfl) _ rfl
        have hc : W.cell? ⟨g1, 0, none⟩ = some (.int .i64 y.k) := (hP.1.row 0 rfl).get rfl
        clear hP
        clear hin hout
        intro K Q hK
        go_simp
        exact hK _ _ ⟨Same.refl _, rfl⟩
      refine allp_mild 0 rfl rfl rfl (fun a x_ W hout hin hP => ?_) ?_
      · have e14 := hin.is 7 14 (by kernel_rfl) (by decide) (by kernel_rfl) (by kernel_rfl) _ rfl
        have hq := HQK.out
        clear hP
        clear hin hout
        intro K Q hK
        go_simp
        exact hK _ _ ⟨Same.refl _, rfl⟩
      refine allp_mild 0 rfl rfl rfl (fun a x_ W hout hin hP => ?_) ?_
      · have e12 := hin.is 5 12 (by kernel_rfl) (by decide) (by kernel_rfl) (by kernel_rfl) _ rfl
        have e15 := hin.is 8 15 (by kernel_rfl) (by decide) (by kernel_rfl) (by kernel_rfl) _ rfl
        exact does_pick rfl e12 ⟨Same.refl _, eval_of_get e15⟩
      refine allp_mild 0 rfl rfl rfl (fun a x_ W hout hin hP => ?_) ?_
      · have e16 := hin.is 9 16 (by kernel_rfl) (by decide) (by kernel_rfl) (by kernel_rfl) _ rfl
        exact does_move rfl e16 ⟨Same.refl _, rfl⟩
      refine allp_skip rfl rfl (fun _ => rfl) ?_
      refine allp_skip rfl rfl (fun _ => rfl) ?_
      refine allp_skip rfl rfl (fun _ => rfl) ?_
      refine allp_skip rfl rfl (fun _ => rfl) ?_
      refine allp_skip rfl rfl (fun _ => rfl) ?_
      refine allp_skip rfl rfl (fun _ => rfl) ?_
      refine allp_skip rfl rfl (fun _ => rfl) ?_
      refine allp_skip rfl rfl (fun _ => rfl) ?_
      refine allp_mild 0 rfl rfl rfl (fun a x_ W hout hin hP => ?_) ?_
      · have e17 := hin.is 10 17 (by kernel_rfl) (by decide) (by kernel_rfl) (by kernel_rfl) _ rfl
        have e25 := hin.is 18 25 (by kernel_rfl) (by decide) (by kernel_rfl) (by kernel_rfl) _ rfl
        exact does_pick rfl e17 ⟨Same.refl _, rfl⟩
      refine allp_mild 0 rfl rfl rfl (fun a x_ W hout hin hP => ?_) ?_
      · have e26 := hin.is 19 26 (by kernel_rfl) (by decide) (by kernel_rfl) (by kernel_rfl) _ rfl
        exact does_move rfl e26 ⟨Same.refl _, rfl⟩
      refine allp_skip rfl rfl (fun _ => rfl) ?_
      refine allp_skip rfl rfl (fun _ => rfl) ?_
      refine allp_skip rfl rfl (fun _ => rfl) ?_
      refine allp_skip rfl rfl (fun _ => rfl) ?_
      refine allp_skip rfl rfl (fun _ => rfl) ?_
      refine allp_skip rfl rfl (fun _ => rfl) ?_
      refine allp_skip rfl rfl (fun _ => rfl) ?_
      refine allp_skip rfl rfl (fun _ => rfl) ?_
      refine allp_mild 0 rfl rfl rfl (fun a x_ W hout hin hP => ?_) ?_
      · have e27 := hin.is 20 27 (by kernel_rfl) (by decide) (by kernel_rfl) (by kernel_rfl) _ rfl
        have e35 := hin.is 28 35 (by kernel_rfl) (by decide) (by kernel_rfl) (by kernel_rfl) _ rfl
        exact does_pick rfl e27 ⟨Same.refl _, rfl⟩
      exact all_end (by decide)
    · intro x_ W hP hV
      have h29 : x_ 29 = .bool true := hV 29 (by decide) (.inl (by kernel_rfl))
      have HST := Lib.hid hP.1
      have HRW := Lib.hid hP.2
      clear hP hV
      simp only [putL, Act.put, List.setIfInBounds_toArray, List.set_cons_succ, List.set_cons_zero, h29]
      refine wpAnyH_done (by kernel_rfl) ?_ _
      clear h29
      go_wp2_with fail
      go_ret2
      exact ⟨rfl, RsnAt.call ⟨A, n, c, B, m, d, true, wz, HR.out, HPO.out, HPP.out, HIZ.out, HWZ.out⟩ HST.out.below, Chg.of_below HST.out.below⟩
  have HQK : Hid (y.k = 3) := Lib.hid h1
  by_cases h2 : y.e = S.o.e
  case neg =>
    have hB : ackB S y = false := by unfold ackB; rw [decide_eq_false h2]; simp
    have hS : ackS S y = S := by unfold ackS; rw [hB]; exact if_neg (fun h => by cases h)
    rw [hB, hS]
    clear hB hS
    have HQE : Hid ((wd y.e != wd S.o.e) = true) := Lib.hid (bne_iff_ne.2 fun h => h2 (wd_inj h))
    clear h0 h1 h2
    go_enter Try.func18, Try.ntmps18
    go_upto_region 1 with (first | ((with_reducible refine wpList_plain ?_ ?_); exact rfl; intro KK hKK; refine wp_st_box HS 30 (.tmp 1) rfl _ rfl (pktA y.k y.e y.s v) (rfl) (fun g1 W1 HSx => hKK _ _ ?_); clear hKK KK HS; have HS : St w noF [⟨g1, 30, pktA y.k y.e y.s v⟩] W1 := HSx; clear HSx))
    have hF0 : Wl [(fun W => St w noF [⟨g1, 30, pktA y.k y.e y.s v⟩] W ∧ Row W g 35 (rsnC true wz S.o S.p (.slice A n c) (.slice B m d) S.n S.t))] 0 (World.drew _) := ⟨HS.same (Below.refl _ _).drew, (HR.out.call HS.below).call (Below.refl _ _).drew⟩
    clear HS
    refine wp_region_phs [is (.pointer (some ⟨g, 0, none⟩)), is (.pointer (some ⟨g, 0, none⟩)), is (.pointer (some ⟨g, 0, none⟩)), is (.bool true), is (.bool false), is (.bool false), is (.pointer (some ⟨g1, 0, none⟩)), is (.int .i64 y.k), is (.bool false), is (.bool false), is (.bool false), is (.pointer (some ⟨g1, 1, none⟩)), is (.int .u32 (wd y.e)), is (.pointer (some ⟨g, 0, none⟩)), is (.pointer (some ⟨g, 0, none⟩)), is (.pointer (some ⟨g, 2, none⟩)), is (.pointer (some ⟨g, 3, none⟩)), is (.int .u32 (wd S.o.e)), is (.bool true), is (.bool true), is (.bool true), is undef, is undef, is undef, is undef, is undef, is undef, is undef, is undef, is (.bool true)] [true, true, true, true, true, true, true, true, true, true, true, true, true, true, true, true, true, true, true, true, true, true, true, true, true, true, true, true, true, true] [(fun W => St w noF [⟨g1, 30, pktA y.k y.e y.s v⟩] W ∧ Row W g 35 (rsnC true wz S.o S.p (.slice A n c) (.slice B m d) S.n S.t))] [false, false, false, false, false, false, false, false, false, false, false, false, false, false, false, false, false, false, false, false, false, false, false, false, false, false, false, false, false, false] [some 0, some 0, some 0, some 0, some 0, some 0, some 0, some 0, some 0, some 0, some 0, some 0, some 0, some 0, some 0, some 0, some 0, some 0, some 0, some 0, some 0, some 0, some 0, some 0, some 0, some 0, some 0, some 0, some 0, some 0] [some 7, some 8, some 9, some 10, some 11, some 12, some 13, some 14, some 15, some 16, some 17, some 18, some 19, some 20, some 21, some 22, some 23, some 24, some 25, some 26, some 27, some 28, some 29, some 30, some 31, some 32, some 33, some 34, some 35, some 36] 30 0 (fun i => !([21, 22, 23, 24, 25, 26, 27, 28] : List Nat).contains i) rfl rfl (by kernel_rfl) (by kernel_rfl) (by kernel_rfl) (by kernel_rfl) ?_ ?_ ?_ ?_ ?_ ?_
    · repeat first | exact wok_nil | refine wok_cons (by first | exact fun _ _ h k => ⟨h.1.same k, h.2.call k⟩) ?_
    · repeat first | exact vok_nil | refine vok_rig (by first | exact fun _ _ _ h => h) ?_ | refine vok_soft (by first | exact fun _ _ _ h _ => h) ?_
    · exact hF0
    · repeat first | exact all_end (by decide) | refine all_cons (by first | exact rfl | exact ⟨rfl, fun _ _ h => Or.inl h⟩ | exact ⟨rfl, fun _ _ h => Or.inr ⟨h, rfl⟩⟩) ?_
    · refine allp_mild 0 rfl rfl rfl (fun a x_ W hout hin hP => ?_) ?_
      · have e0 : a.tmps[0]? = some (.pointer (some ⟨g, 0, none⟩)) := (hout 0 (by kernel_rfl)).trans rfl
        exact does_move rfl e0 ⟨Same.refl _, rfl⟩
      refine allp_mild 0 rfl rfl rfl (fun a x_ W hout hin hP => ?_) ?_
      · have e7 := hin.is 0 7 (by kernel_rfl) (by decide) (by kernel_rfl) (by kernel_rfl) _ rfl
        clear hP
        clear hin hout
        intro K Q hK
        go_simp
        exact hK _ _ ⟨Same.refl _, rfl⟩
      refine allp_mild 0 rfl rfl rfl (fun a x_ W hout hin hP => ?_) ?_
      · have e8 := hin.is 1 8 (by kernel_rfl) (by decide) (by kernel_rfl) (by kernel_rfl) _ rfl
        clear hP
        clear hin hout
        intro K Q hK
        go_simp
        exact hK _ _ ⟨Same.refl _, rfl⟩
      refine allp_mild 0 rfl rfl rfl (fun a x_ W hout hin hP => ?_) ?_
      · have e9 := hin.is 2 9 (by kernel_rfl) (by decide) (by kernel_rfl) (by kernel_rfl) _ rfl
        have hc : W.cell? ⟨g, 0, none⟩ = some (.bool true) := hP.2.get rfl
        clear hP
        clear hin hout
        intro K Q hK
        go_simp
        exact hK _ _ ⟨Same.refl _, rfl⟩
      refine allp_mild 0 rfl rfl rfl (fun a x_ W hout hin hP => ?_) ?_
      · have e10 := hin.is 3 10 (by kernel_rfl) (by decide) (by kernel_rfl) (by kernel_rfl) _ rfl
        exact does_not rfl e10 ⟨Same.refl _, rfl⟩
      refine allp_mild 0 rfl rfl rfl (fun a x_ W hout hin hP => ?_) ?_
      · have e11 := hin.is 4 11 (by kernel_rfl) (by decide) (by kernel_rfl) (by kernel_rfl) _ rfl
        exact does_move rfl e11 ⟨Same.refl _, rfl⟩
      refine allp_mild 0 rfl rfl rfl (fun a x_ W hout hin hP => ?_) ?_
      · have e3 : a.tmps[3]? = some (.pointer (some ⟨g1, 0, none⟩)) := (hout 3 (by kernel_rfl)).trans rfl
        clear hP
        clear hin hout
        intro K Q hK
        go_simp
        exact hK _ _ ⟨Same.refl _, rfl⟩
      refine allp_mild 0 rfl rfl rfl (fun a x_ W hout hin hP => ?_) ?_
      · have e13 := hin.is 6 13 (by kernel_rfl) (by decide) (by kernel_rfl) (by kernel_rfl) _ rfl
        have hc : W.cell? ⟨g1, 0, none⟩ = some (.int .i64 y.k) := (hP.1.row 0 rfl).get rfl
        clear hP
        clear hin hout
        intro K Q hK
        go_simp
        exact hK _ _ ⟨Same.refl _, rfl⟩
      refine allp_mild 0 rfl rfl rfl (fun a x_ W hout hin hP => ?_) ?_
      · have e14 := hin.is 7 14 (by kernel_rfl) (by decide) (by kernel_rfl) (by kernel_rfl) _ rfl
        have hq := HQK.out
        clear hP
        clear hin hout
        intro K Q hK
        go_simp
        exact hK _ _ ⟨Same.refl _, rfl⟩
      refine allp_mild 0 rfl rfl rfl (fun a x_ W hout hin hP => ?_) ?_
      · have e12 := hin.is 5 12 (by kernel_rfl) (by decide) (by kernel_rfl) (by kernel_rfl) _ rfl
        have e15 := hin.is 8 15 (by kernel_rfl) (by decide) (by kernel_rfl) (by kernel_rfl) _ rfl
        exact does_pick rfl e12 ⟨Same.refl _, eval_of_get e15⟩
      refine allp_mild 0 rfl rfl rfl (fun a x_ W hout hin hP => ?_) ?_
      · have e16 := hin.is 9 16 (by kernel_rfl) (by decide) (by kernel_rfl) (by kernel_rfl) _ rfl
        exact does_move rfl e16 ⟨Same.refl _, rfl⟩
      refine allp_mild 0 rfl rfl rfl (fun a x_ W hout hin hP => ?_) ?_
      · have e3 : a.tmps[3]? = some (.pointer (some ⟨g1, 0, none⟩)) := (hout 3 (by kernel_rfl)).trans rfl
        clear hP
        clear hin hout
        intro K Q hK
        go_simp
        exact hK _ _ ⟨Same.refl _, rfl⟩
      refine allp_mild 0 rfl rfl rfl (fun a x_ W hout hin hP => ?_) ?_
      · have e18 := hin.is 11 18 (by kernel_rfl) (by decide) (by kernel_rfl) (by kernel_rfl) _ rfl
        have hc : W.cell? ⟨g1, 1, none⟩ = some (.int .u32 (wd y.e)) := (hP.1.row 0 rfl).get rfl
        clear hP
        clear hin hout
        intro K Q hK
        go_simp
        exact hK _ _ ⟨Same.refl _, rfl⟩
      refine allp_mild 0 rfl rfl rfl (fun a x_ W hout hin hP => ?_) ?_
      · have e0 : a.tmps[0]? = some (.pointer (some ⟨g, 0, none⟩)) := (hout 0 (by kernel_rfl)).trans rfl
        exact does_move rfl e0 ⟨Same.refl _, rfl⟩
      refine allp_mild 0 rfl rfl rfl (fun a x_ W hout hin hP => ?_) ?_
      · have e20 := hin.is 13 20 (by kernel_rfl) (by decide) (by kernel_rfl) (by kernel_rfl) _ rfl
        clear hP
        clear hin hout
        intro K Q hK
        go_simp
        exact hK _ _ ⟨Same.refl _, rfl⟩
      refine allp_mild 0 rfl rfl rfl (fun a x_ W hout hin hP => ?_) ?_
      · have e21 := hin.is 14 21 (by kernel_rfl) (by decide) (by kernel_rfl) (by kernel_rfl) _ rfl
        clear hP
        clear hin hout
        intro K Q hK
        go_simp
        exact hK _ _ ⟨Same.refl _, rfl⟩
      refine allp_mild 0 rfl rfl rfl (fun a x_ W hout hin hP => ?_) ?_
      · have e22 := hin.is 15 22 (by kernel_rfl) (by decide) (by kernel_rfl) (by kernel_rfl) _ rfl
        clear hP
        clear hin hout
        intro K Q hK
        go_simp
        exact hK _ _ ⟨Same.refl _, rfl⟩
      refine allp_mild 0 rfl rfl rfl (fun a x_ W hout hin hP => ?_) ?_
      · have e23 := hin.is 16 23 (by kernel_rfl) (by decide) (by kernel_rfl) (by kernel_rfl) _ rfl
        have hc : W.cell? ⟨g, 3, none⟩ = some (.int .u32 (wd S.o.e)) := hP.2.get rfl
        clear hP
        clear hin hout
        intro K Q hK
        go_simp
        exact hK _ _ ⟨Same.refl _, rfl⟩
      refine allp_mild 0 rfl rfl rfl (fun a x_ W hout hin hP => ?_) ?_
      · have e19 := hin.is 12 19 (by kernel_rfl) (by decide) (by kernel_rfl) (by kernel_rfl) _ rfl
        have e24 := hin.is 17 24 (by kernel_rfl) (by decide) (by kernel_rfl) (by kernel_rfl) _ rfl
        have hq := HQE.out
        clear hP
        clear hin hout
        intro K Q hK
        go_simp
        exact hK _ _ ⟨Same.refl _, rfl⟩
      refine allp_mild 0 rfl rfl rfl (fun a x_ W hout hin hP => ?_) ?_
      · have e17 := hin.is 10 17 (by kernel_rfl) (by decide) (by kernel_rfl) (by kernel_rfl) _ rfl
        have e25 := hin.is 18 25 (by kernel_rfl) (by decide) (by kernel_rfl) (by kernel_rfl) _ rfl
        exact does_pick rfl e17 ⟨Same.refl _, eval_of_get e25⟩
      refine allp_mild 0 rfl rfl rfl (fun a x_ W hout hin hP => ?_) ?_
      · have e26 := hin.is 19 26 (by kernel_rfl) (by decide) (by kernel_rfl) (by kernel_rfl) _ rfl
        exact does_move rfl e26 ⟨Same.refl _, rfl⟩
      refine allp_skip rfl rfl (fun _ => rfl) ?_
      refine allp_skip rfl rfl (fun _ => rfl) ?_
      refine allp_skip rfl rfl (fun _ => rfl) ?_
      refine allp_skip rfl rfl (fun _ => rfl) ?_
      refine allp_skip rfl rfl (fun _ => rfl) ?_
      refine allp_skip rfl rfl (fun _ => rfl) ?_
      refine allp_skip rfl rfl (fun _ => rfl) ?_
      refine allp_skip rfl rfl (fun _ => rfl) ?_
      refine allp_mild 0 rfl rfl rfl (fun a x_ W hout hin hP => ?_) ?_
      · have e27 := hin.is 20 27 (by kernel_rfl) (by decide) (by kernel_rfl) (by kernel_rfl) _ rfl
        have e35 := hin.is 28 35 (by kernel_rfl) (by decide) (by kernel_rfl) (by kernel_rfl) _ rfl
        exact does_pick rfl e27 ⟨Same.refl _, rfl⟩
      exact all_end (by decide)
    · intro x_ W hP hV
      have h29 : x_ 29 = .bool true := hV 29 (by decide) (.inl (by kernel_rfl))
      have HST := Lib.hid hP.1
      have HRW := Lib.hid hP.2
      clear hP hV
      simp only [putL, Act.put, List.setIfInBounds_toArray, List.set_cons_succ, List.set_cons_zero, h29]
      refine wpAnyH_done (by kernel_rfl) ?_ _
      clear h29
      go_wp2_with fail
      go_ret2
      exact ⟨rfl, RsnAt.call ⟨A, n, c, B, m, d, true, wz, HR.out, HPO.out, HPP.out, HIZ.out, HWZ.out⟩ HST.out.below, Chg.of_below HST.out.below⟩
  have HQE : Hid (wd y.e = wd S.o.e) := Lib.hid (by rw [h2])
  by_cases h3 : y.s = S.o.s
  case neg =>
    have hB : ackB S y = false := by unfold ackB; rw [decide_eq_false h3]; simp
    have hS : ackS S y = S := by unfold ackS; rw [hB]; exact if_neg (fun h => by cases h)
    rw [hB, hS]
    clear hB hS
    have HQS : Hid ((wd y.s != wd S.o.s) = true) := Lib.hid (bne_iff_ne.2 fun h => h3 (wd_inj h))
    clear h0 h1 h2 h3
    go_enter Try.func18, Try.ntmps18
    go_upto_region 1 with (first | ((with_reducible refine wpList_plain ?_ ?_); exact rfl; intro KK hKK; refine wp_st_box HS 30 (.tmp 1) rfl _ rfl (pktA y.k y.e y.s v) (rfl) (fun g1 W1 HSx => hKK _ _ ?_); clear hKK KK HS; have HS : St w noF [⟨g1, 30, pktA y.k y.e y.s v⟩] W1 := HSx; clear HSx))
    have hF0 : Wl [(fun W => St w noF [⟨g1, 30, pktA y.k y.e y.s v⟩] W ∧ Row W g 35 (rsnC true wz S.o S.p (.slice A n c) (.slice B m d) S.n S.t))] 0 (World.drew _) := ⟨HS.same (Below.refl _ _).drew, (HR.out.call HS.below).call (Below.refl _ _).drew⟩
    clear HS
    refine wp_region_phs [is (.pointer (some ⟨g, 0, none⟩)), is (.pointer (some ⟨g, 0, none⟩)), is (.pointer (some ⟨g, 0, none⟩)), is (.bool true), is (.bool false), is (.bool false), is (.pointer (some ⟨g1, 0, none⟩)), is (.int .i64 y.k), is (.bool false), is (.bool false), is (.bool false), is (.pointer (some ⟨g1, 1, none⟩)), is (.int .u32 (wd y.e)), is (.pointer (some ⟨g, 0, none⟩)), is (.pointer (some ⟨g, 0, none⟩)), is (.pointer (some ⟨g, 2, none⟩)), is (.pointer (some ⟨g, 3, none⟩)), is (.int .u32 (wd S.o.e)), is (.bool false), is (.bool false), is (.bool false), is (.pointer (some ⟨g1, 2, none⟩)), is (.int .u32 (wd y.s)), is (.pointer (some ⟨g, 0, none⟩)), is (.pointer (some ⟨g, 0, none⟩)), is (.pointer (some ⟨g, 2, none⟩)), is (.pointer (some ⟨g, 4, none⟩)), is (.int .u32 (wd S.o.s)), is (.bool true), is (.bool true)] [true, true, true, true, true, true, true, true, true, true, true, true, true, true, true, true, true, true, true, true, true, true, true, true, true, true, true, true, true, true] [(fun W => St w noF [⟨g1, 30, pktA y.k y.e y.s v⟩] W ∧ Row W g 35 (rsnC true wz S.o S.p (.slice A n c) (.slice B m d) S.n S.t))] [false, false, false, false, false, false, false, false, false, false, false, false, false, false, false, false, false, false, false, false, false, false, false, false, false, false, false, false, false, false] [some 0, some 0, some 0, some 0, some 0, some 0, some 0, some 0, some 0, some 0, some 0, some 0, some 0, some 0, some 0, some 0, some 0, some 0, some 0, some 0, some 0, some 0, some 0, some 0, some 0, some 0, some 0, some 0, some 0, some 0] [some 7, some 8, some 9, some 10, some 11, some 12, some 13, some 14, some 15, some 16, some 17, some 18, some 19, some 20, some 21, some 22, some 23, some 24, some 25, some 26, some 27, some 28, some 29, some 30, some 31, some 32, some 33, some 34, some 35, some 36] 30 0 (fun _ => true) rfl rfl (by kernel_rfl) (by kernel_rfl) (by kernel_rfl) (by kernel_rfl) ?_ ?_ ?_ ?_ ?_ ?_
    · repeat first | exact wok_nil | refine wok_cons (by first | exact fun _ _ h k => ⟨h.1.same k, h.2.call k⟩) ?_
    · repeat first | exact vok_nil | refine vok_rig (by first | exact fun _ _ _ h => h) ?_ | refine vok_soft (by first | exact fun _ _ _ h _ => h) ?_
    · exact hF0
    · repeat first | exact all_end (by decide) | refine all_cons (by first | exact rfl | exact ⟨rfl, fun _ _ h => Or.inl h⟩ | exact ⟨rfl, fun _ _ h => Or.inr ⟨h, rfl⟩⟩) ?_
    · refine allp_mild 0 rfl rfl rfl (fun a x_ W hout hin hP => ?_) ?_
      · have e0 : a.tmps[0]? = some (.pointer (some ⟨g, 0, none⟩)) := (hout 0 (by kernel_rfl)).trans rfl
        exact does_move rfl e0 ⟨Same.refl _, rfl⟩
      refine allp_mild 0 rfl rfl rfl (fun a x_ W hout hin hP => ?_) ?_
      · have e7 := hin.is 0 7 (by kernel_rfl) (by decide) (by kernel_rfl) (by kernel_rfl) _ rfl
        clear hP
        clear hin hout
        intro K Q hK
        go_simp
        exact hK _ _ ⟨Same.refl _, rfl⟩
      refine allp_mild 0 rfl rfl rfl (fun a x_ W hout hin hP => ?_) ?_
      · have e8 := hin.is 1 8 (by kernel_rfl) (by decide) (by kernel_rfl) (by kernel_rfl) _ rfl
        clear hP
        clear hin hout
        intro K Q hK
        go_simp
        exact hK _ _ ⟨Same.refl _, rfl⟩
      refine allp_mild 0 rfl rfl rfl (fun a x_ W hout hin hP => ?_) ?_
      · have e9 := hin.is 2 9 (by kernel_rfl) (by decide) (by kernel_rfl) (by kernel_rfl) _ rfl
        have hc : W.cell? ⟨g, 0, none⟩ = some (.bool true) := hP.2.get rfl
        clear hP
        clear hin hout
        intro K Q hK
        go_simp
        exact hK _ _ ⟨Same.refl _, rfl⟩
      refine allp_mild 0 rfl rfl rfl (fun a x_ W hout hin hP => ?_) ?_
      · have e10 := hin.is 3 10 (by kernel_rfl) (by decide) (by kernel_rfl) (by kernel_rfl) _ rfl
        exact does_not rfl e10 ⟨Same.refl _, rfl⟩
      refine allp_mild 0 rfl rfl rfl (fun a x_ W hout hin hP => ?_) ?_
      · have e11 := hin.is 4 11 (by kernel_rfl) (by decide) (by kernel_rfl) (by kernel_rfl) _ rfl
        exact does_move rfl e11 ⟨Same.refl _, rfl⟩
      refine allp_mild 0 rfl rfl rfl (fun a x_ W hout hin hP => ?_) ?_
      · have e3 : a.tmps[3]? = some (.pointer (some ⟨g1, 0, none⟩)) := (hout 3 (by kernel_rfl)).trans rfl
        clear hP
        clear hin hout
        intro K Q hK
        go_simp
        exact hK _ _ ⟨Same.refl _, rfl⟩
      refine allp_mild 0 rfl rfl rfl (fun a x_ W hout hin hP => ?_) ?_
      · have e13 := hin.is 6 13 (by kernel_rfl) (by decide) (by kernel_rfl) (by kernel_rfl) _ rfl
        have hc : W.cell? ⟨g1, 0, none⟩ = some (.int .i64 y.k) := (hP.1.row 0 rfl).get rfl
        clear hP
        clear hin hout
        intro K Q hK
        go_simp
        exact hK _ _ ⟨Same.refl _, rfl⟩
      refine allp_mild 0 rfl rfl rfl (fun a x_ W hout hin hP => ?_) ?_
      · have e14 := hin.is 7 14 (by kernel_rfl) (by decide) (by kernel_rfl) (by kernel_rfl) _ rfl
        have hq := HQK.out
        clear hP
        clear hin hout
        intro K Q hK
        go_simp
        exact hK _ _ ⟨Same.refl _, rfl⟩
      refine allp_mild 0 rfl rfl rfl (fun a x_ W hout hin hP => ?_) ?_
      · have e12 := hin.is 5 12 (by kernel_rfl) (by decide) (by kernel_rfl) (by kernel_rfl) _ rfl
        have e15 := hin.is 8 15 (by kernel_rfl) (by decide) (by kernel_rfl) (by kernel_rfl) _ rfl
        exact does_pick rfl e12 ⟨Same.refl _, eval_of_get e15⟩
      refine allp_mild 0 rfl rfl rfl (fun a x_ W hout hin hP => ?_) ?_
      · have e16 := hin.is 9 16 (by kernel_rfl) (by decide) (by kernel_rfl) (by kernel_rfl) _ rfl
        exact does_move rfl e16 ⟨Same.refl _, rfl⟩
      refine allp_mild 0 rfl rfl rfl (fun a x_ W hout hin hP => ?_) ?_
      · have e3 : a.tmps[3]? = some (.pointer (some ⟨g1, 0, none⟩)) := (hout 3 (by kernel_rfl)).trans rfl
        clear hP
        clear hin hout
        intro K Q hK
        go_simp
        exact hK _ _ ⟨Same.refl _, rfl⟩
      refine allp_mild 0 rfl rfl rfl (fun a x_ W hout hin hP => ?_) ?_
      · have e18 := hin.is 11 18 (by kernel_rfl) (by decide) (by kernel_rfl) (by kernel_rfl) _ rfl
        have hc : W.cell? ⟨g1, 1, none⟩ = some (.int .u32 (wd y.e)) := (hP.1.row 0 rfl).get rfl
        clear hP
        clear hin hout
        intro K Q hK
        go_simp
        exact hK _ _ ⟨Same.refl _, rfl⟩
      refine allp_mild 0 rfl rfl rfl (fun a x_ W hout hin hP => ?_) ?_
      · have e0 : a.tmps[0]? = some (.pointer (some ⟨g, 0, none⟩)) := (hout 0 (by kernel_rfl)).trans rfl
        exact does_move rfl e0 ⟨Same.refl _, rfl⟩
      refine allp_mild 0 rfl rfl rfl (fun a x_ W hout hin hP => ?_) ?_
      · have e20 := hin.is 13 20 (by kernel_rfl) (by decide) (by kernel_rfl) (by kernel_rfl) _ rfl
        clear hP
        clear hin hout
        intro K Q hK
        go_simp
        exact hK _ _ ⟨Same.refl _, rfl⟩
      refine allp_mild 0 rfl rfl rfl (fun a x_ W hout hin hP => ?_) ?_
      · have e21 := hin.is 14 21 (by kernel_rfl) (by decide) (by kernel_rfl) (by kernel_rfl) _ rfl
        clear hP
        clear hin hout
        intro K Q hK
        go_simp
        exact hK _ _ ⟨Same.refl _, rfl⟩
      refine allp_mild 0 rfl rfl rfl (fun a x_ W hout hin hP => ?_) ?_
      · have e22 := hin.is 15 22 (by kernel_rfl) (by decide) (by kernel_rfl) (by kernel_rfl) _ rfl
        clear hP
        clear hin hout
        intro K Q hK
        go_simp
        exact hK _ _ ⟨Same.refl _, rfl⟩
      refine allp_mild 0 rfl rfl rfl (fun a x_ W hout hin hP => ?_) ?_
      · have e23 := hin.is 16 23 (by kernel_rfl) (by decide) (by kernel_rfl) (by kernel_rfl) _ rfl
        have hc : W.cell? ⟨g, 3, none⟩ = some (.int .u32 (wd S.o.e)) := hP.2.get rfl
        clear hP
        clear hin hout
        intro K Q hK
        go_simp
        exact hK _ _ ⟨Same.refl _, rfl⟩
      refine allp_mild 0 rfl rfl rfl (fun a x_ W hout hin hP => ?_) ?_
      · have e19 := hin.is 12 19 (by kernel_rfl) (by decide) (by kernel_rfl) (by kernel_rfl) _ rfl
        have e24 := hin.is 17 24 (by kernel_rfl) (by decide) (by kernel_rfl) (by kernel_rfl) _ rfl
        have hq := HQE.out
        clear hP
        clear hin hout
        intro K Q hK
        go_simp
        exact hK _ _ ⟨Same.refl _, rfl⟩
      refine allp_mild 0 rfl rfl rfl (fun a x_ W hout hin hP => ?_) ?_
      · have e17 := hin.is 10 17 (by kernel_rfl) (by decide) (by kernel_rfl) (by kernel_rfl) _ rfl
        have e25 := hin.is 18 25 (by kernel_rfl) (by decide) (by kernel_rfl) (by kernel_rfl) _ rfl
        exact does_pick rfl e17 ⟨Same.refl _, eval_of_get e25⟩
      refine allp_mild 0 rfl rfl rfl (fun a x_ W hout hin hP => ?_) ?_
      · have e26 := hin.is 19 26 (by kernel_rfl) (by decide) (by kernel_rfl) (by kernel_rfl) _ rfl
        exact does_move rfl e26 ⟨Same.refl _, rfl⟩
      refine allp_mild 0 rfl rfl rfl (fun a x_ W hout hin hP => ?_) ?_
      · have e3 : a.tmps[3]? = some (.pointer (some ⟨g1, 0, none⟩)) := (hout 3 (by kernel_rfl)).trans rfl
        clear hP
        clear hin hout
        intro K Q hK
        go_simp
        exact hK _ _ ⟨Same.refl _, rfl⟩
      refine allp_mild 0 rfl rfl rfl (fun a x_ W hout hin hP => ?_) ?_
      · have e28 := hin.is 21 28 (by kernel_rfl) (by decide) (by kernel_rfl) (by kernel_rfl) _ rfl
        have hc : W.cell? ⟨g1, 2, none⟩ = some (.int .u32 (wd y.s)) := (hP.1.row 0 rfl).get rfl
        clear hP
        clear hin hout
        intro K Q hK
        go_simp
        exact hK _ _ ⟨Same.refl _, rfl⟩
      refine allp_mild 0 rfl rfl rfl (fun a x_ W hout hin hP => ?_) ?_
      · have e0 : a.tmps[0]? = some (.pointer (some ⟨g, 0, none⟩)) := (hout 0 (by kernel_rfl)).trans rfl
        exact does_move rfl e0 ⟨Same.refl _, rfl⟩
      refine allp_mild 0 rfl rfl rfl (fun a x_ W hout hin hP => ?_) ?_
      · have e30 := hin.is 23 30 (by kernel_rfl) (by decide) (by kernel_rfl) (by kernel_rfl) _ rfl
        clear hP
        clear hin hout
        intro K Q hK
        go_simp
        exact hK _ _ ⟨Same.refl _, rfl⟩
      refine allp_mild 0 rfl rfl rfl (fun a x_ W hout hin hP => ?_) ?_
      · have e31 := hin.is 24 31 (by kernel_rfl) (by decide) (by kernel_rfl) (by kernel_rfl) _ rfl
        clear hP
        clear hin hout
        intro K Q hK
        go_simp
        exact hK _ _ ⟨Same.refl _, rfl⟩
      refine allp_mild 0 rfl rfl rfl (fun a x_ W hout hin hP => ?_) ?_
      · have e32 := hin.is 25 32 (by kernel_rfl) (by decide) (by kernel_rfl) (by kernel_rfl) _ rfl
        clear hP
        clear hin hout
        intro K Q hK
        go_simp
        exact hK _ _ ⟨Same.refl _, rfl⟩
      refine allp_mild 0 rfl rfl rfl (fun a x_ W hout hin hP => ?_) ?_
      · have e33 := hin.is 26 33 (by kernel_rfl) (by decide) (by kernel_rfl) (by kernel_rfl) _ rfl
        have hc : W.cell? ⟨g, 4, none⟩ = some (.int .u32 (wd S.o.s)) := hP.2.get rfl
        clear hP
        clear hin hout
        intro K Q hK
        go_simp
        exact hK _ _ ⟨Same.refl _, rfl⟩
      refine allp_mild 0 rfl rfl rfl (fun a x_ W hout hin hP => ?_) ?_
      · have e29 := hin.is 22 29 (by kernel_rfl) (by decide) (by kernel_rfl) (by kernel_rfl) _ rfl
        have e34 := hin.is 27 34 (by kernel_rfl) (by decide) (by kernel_rfl) (by kernel_rfl) _ rfl
        have hq := HQS.out
        clear hP
        clear hin hout
        intro K Q hK
        go_simp
        exact hK _ _ ⟨Same.refl _, rfl⟩
      refine allp_mild 0 rfl rfl rfl (fun a x_ W hout hin hP => ?_) ?_
      · have e27 := hin.is 20 27 (by kernel_rfl) (by decide) (by kernel_rfl) (by kernel_rfl) _ rfl
        have e35 := hin.is 28 35 (by kernel_rfl) (by decide) (by kernel_rfl) (by kernel_rfl) _ rfl
        exact does_pick rfl e27 ⟨Same.refl _, eval_of_get e35⟩
      exact all_end (by decide)
    · intro x_ W hP hV
      have h29 : x_ 29 = .bool true := hV 29 (by decide) (.inl (by kernel_rfl))
      have HST := Lib.hid hP.1
      have HRW := Lib.hid hP.2
      clear hP hV
      simp only [putL, Act.put, List.setIfInBounds_toArray, List.set_cons_succ, List.set_cons_zero, h29]
      refine wpAnyH_done (by kernel_rfl) ?_ _
      clear h29
      go_wp2_with fail
      go_ret2
      exact ⟨rfl, RsnAt.call ⟨A, n, c, B, m, d, true, wz, HR.out, HPO.out, HPP.out, HIZ.out, HWZ.out⟩ HST.out.below, Chg.of_below HST.out.below⟩
  have HQS : Hid (wd y.s = wd S.o.s) := Lib.hid (by rw [h3])
  have hB : ackB S y = true := by unfold ackB; rw [decide_eq_true h0, decide_eq_true h1, decide_eq_true h2, decide_eq_true h3]; rfl
  have hS : ackS S y = stopS S true := by unfold ackS; rw [hB]; exact if_pos rfl
  rw [hB, hS]
  clear hB hS
  clear h0 h1 h2 h3
  go_enter Try.func18, Try.ntmps18
  go_upto_region 1 with (first | ((with_reducible refine wpList_plain ?_ ?_); exact rfl; intro KK hKK; refine wp_st_box HS 30 (.tmp 1) rfl _ rfl (pktA y.k y.e y.s v) (rfl) (fun g1 W1 HSx => hKK _ _ ?_); clear hKK KK HS; have HS : St w noF [⟨g1, 30, pktA y.k y.e y.s v⟩] W1 := HSx; clear HSx))
  have hF0 : Wl [(fun W => St w noF [⟨g1, 30, pktA y.k y.e y.s v⟩] W ∧ Row W g 35 (rsnC true wz S.o S.p (.slice A n c) (.slice B m d) S.n S.t))] 0 (World.drew _) := ⟨HS.same (Below.refl _ _).drew, (HR.out.call HS.below).call (Below.refl _ _).drew⟩
  clear HS
  refine wp_region_phs [is (.pointer (some ⟨g, 0, none⟩)), is (.pointer (some ⟨g, 0, none⟩)), is (.pointer (some ⟨g, 0, none⟩)), is (.bool true), is (.bool false), is (.bool false), is (.pointer (some ⟨g1, 0, none⟩)), is (.int .i64 y.k), is (.bool false), is (.bool false), is (.bool false), is (.pointer (some ⟨g1, 1, none⟩)), is (.int .u32 (wd y.e)), is (.pointer (some ⟨g, 0, none⟩)), is (.pointer (some ⟨g, 0, none⟩)), is (.pointer (some ⟨g, 2, none⟩)), is (.pointer (some ⟨g, 3, none⟩)), is (.int .u32 (wd S.o.e)), is (.bool false), is (.bool false), is (.bool false), is (.pointer (some ⟨g1, 2, none⟩)), is (.int .u32 (wd y.s)), is (.pointer (some ⟨g, 0, none⟩)), is (.pointer (some ⟨g, 0, none⟩)), is (.pointer (some ⟨g, 2, none⟩)), is (.pointer (some ⟨g, 4, none⟩)), is (.int .u32 (wd S.o.s)), is (.bool false), is (.bool false)] [true, true, true, true, true, true, true, true, true, true, true, true, true, true, true, true, true, true, true, true, true, true, true, true, true, true, true, true, true, true] [(fun W => St w noF [⟨g1, 30, pktA y.k y.e y.s v⟩] W ∧ Row W g 35 (rsnC true wz S.o S.p (.slice A n c) (.slice B m d) S.n S.t))] [false, false, false, false, false, false, false, false, false, false, false, false, false, false, false, false, false, false, false, false, false, false, false, false, false, false, false, false, false, false] [some 0, some 0, some 0, some 0, some 0, some 0, some 0, some 0, some 0, some 0, some 0, some 0, some 0, some 0, some 0, some 0, some 0, some 0, some 0, some 0, some 0, some 0, some 0, some 0, some 0, some 0, some 0, some 0, some 0, some 0] [some 7, some 8, some 9, some 10, some 11, some 12, some 13, some 14, some 15, some 16, some 17, some 18, some 19, some 20, some 21, some 22, some 23, some 24, some 25, some 26, some 27, some 28, some 29, some 30, some 31, some 32, some 33, some 34, some 35, some 36] 30 0 (fun _ => true) rfl rfl (by kernel_rfl) (by kernel_rfl) (by kernel_rfl) (by kernel_rfl) ?_ ?_ ?_ ?_ ?_ ?_
  · repeat first | exact wok_nil | refine wok_cons (by first | exact fun _ _ h k => ⟨h.1.same k, h.2.call k⟩) ?_
  · repeat first | exact vok_nil | refine vok_rig (by first | exact fun _ _ _ h => h) ?_ | refine vok_soft (by first | exact fun _ _ _ h _ => h) ?_
  · exact hF0
  · repeat first | exact all_end (by decide) | refine all_cons (by first | exact rfl | exact ⟨rfl, fun _ _ h => Or.inl h⟩ | exact ⟨rfl, fun _ _ h => Or.inr ⟨h, rfl⟩⟩) ?_
  · refine allp_mild 0 rfl rfl rfl (fun a x_ W hout hin hP => ?_) ?_
    · have e0 : a.tmps[0]? = some (.pointer (some ⟨g, 0, none⟩)) := (hout 0 (by kernel_rfl)).trans rfl
      exact does_move rfl e0 ⟨Same.refl _, rfl⟩
    refine allp_mild 0 rfl rfl rfl (fun a x_ W hout hin hP => ?_) ?_
    · have e7 := hin.is 0 7 (by kernel_rfl) (by decide) (by kernel_rfl) (by kernel_rfl) _ rfl
      clear hP
      clear hin hout
      intro K Q hK
      go_simp
      exact hK _ _ ⟨Same.refl _, rfl⟩
    refine allp_mild 0 rfl rfl rfl (fun a x_ W hout hin hP => ?_) ?_
    · have e8 := hin.is 1 8 (by kernel_rfl) (by decide) (by kernel_rfl) (by kernel_rfl) _ rfl
      clear hP
      clear hin hout
      intro K Q hK
      go_simp
      exact hK _ _ ⟨Same.refl _, rfl⟩
    refine allp_mild 0 rfl rfl rfl (fun a x_ W hout hin hP => ?_) ?_
    · have e9 := hin.is 2 9 (by kernel_rfl) (by decide) (by kernel_rfl) (by kernel_rfl) _ rfl
      have hc : W.cell? ⟨g, 0, none⟩ = some (.bool true) := hP.2.get rfl
      clear hP
      clear hin hout
      intro K Q hK
      go_simp
      exact hK _ _ ⟨Same.refl _, rfl⟩
    refine allp_mild 0 rfl rfl rfl (fun a x_ W hout hin hP => ?_) ?_
    · have e10 := hin.is 3 10 (by kernel_rfl) (by decide) (by kernel_rfl) (by kernel_rfl) _ rfl
      exact does_not rfl e10 ⟨Same.refl _, rfl⟩
    refine allp_mild 0 rfl rfl rfl (fun a x_ W hout hin hP => ?_) ?_
    · have e11 := hin.is 4 11 (by kernel_rfl) (by decide) (by kernel_rfl) (by kernel_rfl) _ rfl
      exact does_move rfl e11 ⟨Same.refl _, rfl⟩
    refine allp_mild 0 rfl rfl rfl (fun a x_ W hout hin hP => ?_) ?_
    · have e3 : a.tmps[3]? = some (.pointer (some ⟨g1, 0, none⟩)) := (hout 3 (by kernel_rfl)).trans rfl
      clear hP
      clear hin hout
      intro K Q hK
      go_simp
      exact hK _ _ ⟨Same.refl _, rfl⟩
    refine allp_mild 0 rfl rfl rfl (fun a x_ W hout hin hP => ?_) ?_
    · have e13 := hin.is 6 13 (by kernel_rfl) (by decide) (by kernel_rfl) (by kernel_rfl) _ rfl
      have hc : W.cell? ⟨g1, 0, none⟩ = some (.int .i64 y.k) := (hP.1.row 0 rfl).get rfl
      clear hP
      clear hin hout
      intro K Q hK
      go_simp
      exact hK _ _ ⟨Same.refl _, rfl⟩
    refine allp_mild 0 rfl rfl rfl (fun a x_ W hout hin hP => ?_) ?_
    · have e14 := hin.is 7 14 (by kernel_rfl) (by decide) (by kernel_rfl) (by kernel_rfl) _ rfl
      have hq := HQK.out
      clear hP
      clear hin hout
      intro K Q hK
      go_simp
      exact hK _ _ ⟨Same.refl _, rfl⟩
    refine allp_mild 0 rfl rfl rfl (fun a x_ W hout hin hP => ?_) ?_
    · have e12 := hin.is 5 12 (by kernel_rfl) (by decide) (by kernel_rfl) (by kernel_rfl) _ rfl
      have e15 := hin.is 8 15 (by kernel_rfl) (by decide) (by kernel_rfl) (by kernel_rfl) _ rfl
      exact does_pick rfl e12 ⟨Same.refl _, eval_of_get e15⟩
    refine allp_mild 0 rfl rfl rfl (fun a x_ W hout hin hP => ?_) ?_
    · have e16 := hin.is 9 16 (by kernel_rfl) (by decide) (by kernel_rfl) (by kernel_rfl) _ rfl
      exact does_move rfl e16 ⟨Same.refl _, rfl⟩
    refine allp_mild 0 rfl rfl rfl (fun a x_ W hout hin hP => ?_) ?_
    · have e3 : a.tmps[3]? = some (.pointer (some ⟨g1, 0, none⟩)) := (hout 3 (by kernel_rfl)).trans rfl
      clear hP
      clear hin hout
      intro K Q hK
      go_simp
      exact hK _ _ ⟨Same.refl _, rfl⟩
    refine allp_mild 0 rfl rfl rfl (fun a x_ W hout hin hP => ?_) ?_
    · have e18 := hin.is 11 18 (by kernel_rfl) (by decide) (by kernel_rfl) (by kernel_rfl) _ rfl
      have hc : W.cell? ⟨g1, 1, none⟩ = some (.int .u32 (wd y.e)) := (hP.1.row 0 rfl).get rfl
      clear hP
      clear hin hout
      intro K Q hK
      go_simp
      exact hK _ _ ⟨Same.refl _, rfl⟩
    refine allp_mild 0 rfl rfl rfl (fun a x_ W hout hin hP => ?_) ?_
    · have e0 : a.tmps[0]? = some (.pointer (some ⟨g, 0, none⟩)) := (hout 0 (by kernel_rfl)).trans rfl
      exact does_move rfl e0 ⟨Same.refl _, rfl⟩
    refine allp_mild 0 rfl rfl rfl (fun a x_ W hout hin hP => ?_) ?_
    · have e20 := hin.is 13 20 (by kernel_rfl) (by decide) (by kernel_rfl) (by kernel_rfl) _ rfl
      clear hP
      clear hin hout
      intro K Q hK
      go_simp
      exact hK _ _ ⟨Same.refl _, rfl⟩
    refine allp_mild 0 rfl rfl rfl (fun a x_ W hout hin hP => ?_) ?_
    · have e21 := hin.is 14 21 (by kernel_rfl) (by decide) (by kernel_rfl) (by kernel_rfl) _ rfl
      clear hP
      clear hin hout
      intro K Q hK
      go_simp
      exact hK _ _ ⟨Same.refl _, rfl⟩
    refine allp_mild 0 rfl rfl rfl (fun a x_ W hout hin hP => ?_) ?_
    · have e22 := hin.is 15 22 (by kernel_rfl) (by decide) (by kernel_rfl) (by kernel_rfl) _ rfl
      clear hP
      clear hin hout
      intro K Q hK
      go_simp
      exact hK _ _ ⟨Same.refl _, rfl⟩
    refine allp_mild 0 rfl rfl rfl (fun a x_ W hout hin hP => ?_) ?_
    · have e23 := hin.is 16 23 (by kernel_rfl) (by decide) (by kernel_rfl) (by kernel_rfl) _ rfl
      have hc : W.cell? ⟨g, 3, none⟩ = some (.int .u32 (wd S.o.e)) := hP.2.get rfl
      clear hP
      clear hin hout
      intro K Q hK
      go_simp
      exact hK _ _ ⟨Same.refl _, rfl⟩
    refine allp_mild 0 rfl rfl rfl (fun a x_ W hout hin hP => ?_) ?_
    · have e19 := hin.is 12 19 (by kernel_rfl) (by decide) (by kernel_rfl) (by kernel_rfl) _ rfl
      have e24 := hin.is 17 24 (by kernel_rfl) (by decide) (by kernel_rfl) (by kernel_rfl) _ rfl
      have hq := HQE.out
      clear hP
      clear hin hout
      intro K Q hK
      go_simp
      exact hK _ _ ⟨Same.refl _, rfl⟩
    refine allp_mild 0 rfl rfl rfl (fun a x_ W hout hin hP => ?_) ?_
    · have e17 := hin.is 10 17 (by kernel_rfl) (by decide) (by kernel_rfl) (by kernel_rfl) _ rfl
      have e25 := hin.is 18 25 (by kernel_rfl) (by decide) (by kernel_rfl) (by kernel_rfl) _ rfl
      exact does_pick rfl e17 ⟨Same.refl _, eval_of_get e25⟩
    refine allp_mild 0 rfl rfl rfl (fun a x_ W hout hin hP => ?_) ?_
    · have e26 := hin.is 19 26 (by kernel_rfl) (by decide) (by kernel_rfl) (by kernel_rfl) _ rfl
      exact does_move rfl e26 ⟨Same.refl _, rfl⟩
    refine allp_mild 0 rfl rfl rfl (fun a x_ W hout hin hP => ?_) ?_
    · have e3 : a.tmps[3]? = some (.pointer (some ⟨g1, 0, none⟩)) := (hout 3 (by kernel_rfl)).trans rfl
      clear hP
      clear hin hout
      intro K Q hK
      go_simp
      exact hK _ _ ⟨Same.refl _, rfl⟩
    refine allp_mild 0 rfl rfl rfl (fun a x_ W hout hin hP => ?_) ?_
    · have e28 := hin.is 21 28 (by kernel_rfl) (by decide) (by kernel_rfl) (by kernel_rfl) _ rfl
      have hc : W.cell? ⟨g1, 2, none⟩ = some (.int .u32 (wd y.s)) := (hP.1.row 0 rfl).get rfl
      clear hP
      clear hin hout
      intro K Q hK
      go_simp
      exact hK _ _ ⟨Same.refl _, rfl⟩
    refine allp_mild 0 rfl rfl rfl (fun a x_ W hout hin hP => ?_) ?_
    · have e0 : a.tmps[0]? = some (.pointer (some ⟨g, 0, none⟩)) := (hout 0 (by kernel_rfl)).trans rfl
      exact does_move rfl e0 ⟨Same.refl _, rfl⟩
    refine allp_mild 0 rfl rfl rfl (fun a x_ W hout hin hP => ?_) ?_
    · have e30 := hin.is 23 30 (by kernel_rfl) (by decide) (by kernel_rfl) (by kernel_rfl) _ rfl
      clear hP
      clear hin hout
      intro K Q hK
      go_simp
      exact hK _ _ ⟨Same.refl _, rfl⟩
    refine allp_mild 0 rfl rfl rfl (fun a x_ W hout hin hP => ?_) ?_
    · have e31 := hin.is 24 31 (by kernel_rfl) (by decide) (by kernel_rfl) (by kernel_rfl) _ rfl
      clear hP
      clear hin hout
      intro K Q hK
      go_simp
      exact hK _ _ ⟨Same.refl _, rfl⟩
    refine allp_mild 0 rfl rfl rfl (fun a x_ W hout hin hP => ?_) ?_
    · have e32 := hin.is 25 32 (by kernel_rfl) (by decide) (by kernel_rfl) (by kernel_rfl) _ rfl
      clear hP
      clear hin hout
      intro K Q hK
      go_simp
      exact hK _ _ ⟨Same.refl _, rfl⟩
    refine allp_mild 0 rfl rfl rfl (fun a x_ W hout hin hP => ?_) ?_
    · have e33 := hin.is 26 33 (by kernel_rfl) (by decide) (by kernel_rfl) (by kernel_rfl) _ rfl
      have hc : W.cell? ⟨g, 4, none⟩ = some (.int .u32 (wd S.o.s)) := hP.2.get rfl
      clear hP
      clear hin hout
      intro K Q hK
      go_simp
      exact hK _ _ ⟨Same.refl _, rfl⟩
    refine allp_mild 0 rfl rfl rfl (fun a x_ W hout hin hP => ?_) ?_
    · have e29 := hin.is 22 29 (by kernel_rfl) (by decide) (by kernel_rfl) (by kernel_rfl) _ rfl
      have e34 := hin.is 27 34 (by kernel_rfl) (by decide) (by kernel_rfl) (by kernel_rfl) _ rfl
      have hq := HQS.out
      clear hP
      clear hin hout
      intro K Q hK
      go_simp
      exact hK _ _ ⟨Same.refl _, rfl⟩
    refine allp_mild 0 rfl rfl rfl (fun a x_ W hout hin hP => ?_) ?_
    · have e27 := hin.is 20 27 (by kernel_rfl) (by decide) (by kernel_rfl) (by kernel_rfl) _ rfl
      have e35 := hin.is 28 35 (by kernel_rfl) (by decide) (by kernel_rfl) (by kernel_rfl) _ rfl
      exact does_pick rfl e27 ⟨Same.refl _, eval_of_get e35⟩
    exact all_end (by decide)
  · intro x_ W hP hV
    have h29 : x_ 29 = .bool false := hV 29 (by decide) (.inl (by kernel_rfl))
    have HST := Lib.hid hP.1
    have HRW := Lib.hid hP.2
    clear hP hV
    simp only [putL, Act.put, List.setIfInBounds_toArray, List.set_cons_succ, List.set_cons_zero, h29]
    refine wpAnyH_done (by kernel_rfl) ?_ _
    clear h29
    have c9 := HRW.out.get (i := 11) rfl
    have HAT := Lib.hid (RsnAt.call ⟨A, n, c, B, m, d, true, wz, HR.out, HPO.out, HPP.out, HIZ.out, HWZ.out⟩ HST.out.below)
    have HC : Hid (Chg (fun k => k = g) w W) := Lib.hid (Chg.of_below HST.out.below)
    have C := rstop_any g S true W HAT.out
    clear HST HAT
    go_wp2_with fail
    refine C.mono ?_
    rintro x w9 ⟨rfl, hs9, hc9⟩
    have HS9 := Lib.hid hs9
    have HC9 := Lib.hid (HC.out.trans hc9 (fun i hi => .inl hi))
    clear C hs9 hc9
    go_wp2_with fail
    go_ret2
    exact ⟨rfl, HS9.out, HC9.out⟩
theorem st_two {w : World} {g k : Nat} {t u : TypeId} {cs ds : Array Value} (h1 : Row w g t cs) (h2 : Row w k u ds) (hne : g ≠ k) : St w (fun i => i = g ∨ i = k) [⟨g, t, cs⟩, ⟨k, u, ds⟩] w :=
  ⟨Chg.refl _ _, (fun j r hj => by match j, hj with
    | 0, hj => cases hj; exact h1
    | 1, hj => cases hj; exact h2), (fun i j r s hij hi hj => by match i, j, hi, hj with
    | 0, 1, hi, hj => cases hi; cases hj; exact hne
    | 1, 0, hi, hj => cases hi; cases hj; exact fun e => hne e.symm
    | 0, 0, _, _ => exact absurd rfl hij
    | 1, 1, _, _ => exact absurd rfl hij), (fun j r hj => by match j, hj with
    | 0, hj => cases hj; exact .inl (.inl rfl)
    | 1, hj => cases hj; exact .inl (.inr rfl))⟩
theorem mayP_k {p : Pkt} (h : mayP p = true) : p.k = 1 ∨ p.k = 2 ∨ p.k = 3 ∨ p.k = 4 := by
  unfold mayP at h
  split at h
  · rename_i h1; rcases h1 with h1 | h1
    · exact .inl h1
    · exact .inr (.inl h1)
  · split at h
    · rename_i h1; rcases h1 with h1 | h1
      · exact .inr (.inr (.inl h1))
      · exact .inr (.inr (.inr h1))
    · cases h
set_option maxRecDepth 20000 in
set_option maxHeartbeats 3200000 in
theorem rsend_any (g : Nat) (S : Snd) (p : Pkt) (D : Option Addr) (q f : Nat) (w : World) (h : RsnAt w g S) (hp : PutsAt w (.slice D q f) p.l) (hl : p.l.length ≤ maxLen) :
    Calls Try.prog 12 #[.pointer (some ⟨g, 0, none⟩), .agg (pktA p.k p.e p.s (.slice D q f))] w fun x w' => x = .returned (.int .i64 (sendE S p)) ∧ RsnAt w' g (sendS S p) ∧ Chg (fun k => k = g) w w' := by
  obtain ⟨A, n, c, B, m, d, iz, wz, hr, hpo, hpp, hiz, hwz⟩ := h
  have HR := Lib.hid hr
  have HPO := Lib.hid hpo
  have HPP := Lib.hid hpp
  have HIZ := Lib.hid hiz
  have HWZ := Lib.hid hwz
  clear hr hpo hpp hiz hwz
  have HPN := Lib.hid hp
  have C := Lib.hid (fun W (hb : Below w.heap.size w W) => rmay_any p (.slice D q f) W (hp.below hb (Nat.le_refl _)) hl)
  clear hp hl
  have HS := St.nil w noF
  cases hm : mayP p with
  | false =>
    have hO : opB p = false := by unfold opB; rw [hm, Bool.and_false]
    have hE : sendE S p = 1 := by unfold sendE; rw [hO]; rfl
    have hS : sendS S p = S := by unfold sendS; rw [hO]; exact if_neg (fun h => by cases h.1)
    rw [hE, hS]
    rw [hm] at C
    clear hO hE hS hm
    obtain ⟨k, e, s, l⟩ := p
    simp only at HPN C ⊢
    go_enter Try.func12, Try.ntmps12
    go_upto_region 1 with (first | ((with_reducible refine wpList_plain ?_ ?_); exact rfl; intro KK hKK; refine wp_st_box HS 30 (.tmp 1) rfl _ rfl (pktA k e s (.slice D q f)) (rfl) (fun g3 W1 HSx => hKK _ _ ?_); clear hKK KK HS; have HS : St w noF [⟨g3, 30, pktA k e s (.slice D q f)⟩] W1 := HSx; clear HSx))
    have HB := Lib.hid HS.below
    go_wp2_with (first | ((with_reducible refine wpList_plain ?_ ?_); exact rfl; intro KK hKK; refine wp_st_load HS 0 0 30 (.tmp 3) rfl rfl rfl (pktA k e s (.slice D q f)) (slab_whole _) _ Try.underlying30 rfl (by exact size_pkt) (hKK _ _ ?_); clear hKK KK))
    refine (C.out _ HB.out).mono ?_
    rintro x w2 ⟨rfl, hb⟩
    have HSx := HS.same hb
    have HB2 := Lib.hid (HB.out.trans (hb.mono HB.out.size))
    clear HS hb C
    have c0 : w2.cell? ⟨g3, 0, none⟩ = some (.int .i64 k) := (HSx.row 0 rfl).get rfl
    go_wp2_with fail
    go_ret
    exact ⟨rfl, RsnAt.call ⟨A, n, c, B, m, d, iz, wz, HR.out, HPO.out, HPP.out, HIZ.out, HWZ.out⟩ HB2.out, Chg.of_below HB2.out⟩
  | true =>
    have hk4 := mayP_k hm
    rw [hm] at C
    by_cases h12 : p.k = 1 ∨ p.k = 2
    case neg =>
      have hO : opB p = false := by unfold opB; rw [decide_eq_false h12]; rfl
      have hE : sendE S p = 1 := by unfold sendE; rw [hO]; rfl
      have hS : sendS S p = S := by unfold sendS; rw [hO]; exact if_neg (fun h => by cases h.1)
      rw [hE, hS]
      clear hO hE hS hm
      obtain ⟨k, e, s, l⟩ := p
      simp only at HPN C hk4 h12 ⊢
      have hd : decide ((2 : Int) < k) = true := decide_eq_true (by omega)
      go_enter Try.func12, Try.ntmps12
      go_upto_region 1 with (first | ((with_reducible refine wpList_plain ?_ ?_); exact rfl; intro KK hKK; refine wp_st_box HS 30 (.tmp 1) rfl _ rfl (pktA k e s (.slice D q f)) (rfl) (fun g3 W1 HSx => hKK _ _ ?_); clear hKK KK HS; have HS : St w noF [⟨g3, 30, pktA k e s (.slice D q f)⟩] W1 := HSx; clear HSx))
      have HB := Lib.hid HS.below
      go_wp2_with (first | ((with_reducible refine wpList_plain ?_ ?_); exact rfl; intro KK hKK; refine wp_st_load HS 0 0 30 (.tmp 3) rfl rfl rfl (pktA k e s (.slice D q f)) (slab_whole _) _ Try.underlying30 rfl (by exact size_pkt) (hKK _ _ ?_); clear hKK KK))
      refine (C.out _ HB.out).mono ?_
      rintro x w2 ⟨rfl, hb⟩
      have HSx := HS.same hb
      have HB2 := Lib.hid (HB.out.trans (hb.mono HB.out.size))
      clear HS hb C
      have c0 : w2.cell? ⟨g3, 0, none⟩ = some (.int .i64 k) := (HSx.row 0 rfl).get rfl
      go_wp2_with fail
      go_ret
      exact ⟨rfl, RsnAt.call ⟨A, n, c, B, m, d, iz, wz, HR.out, HPO.out, HPP.out, HIZ.out, HWZ.out⟩ HB2.out, Chg.of_below HB2.out⟩
    have hO : opB p = true := by unfold opB; rw [hm, decide_eq_true h12]; rfl
    by_cases h0 : S.o.k = 0
    · have hE : sendE S p = 0 := by unfold sendE; rw [hO, if_pos rfl, if_pos h0]
      have hS : sendS S p = ⟨p, S.p, 0, false⟩ := if_pos ⟨hO, h0⟩
      obtain rfl : iz = false := by rw [HIZ.out]; exact decide_eq_false (by simp [h0])
      rw [hE, hS]
      clear hE hS hO hm h0
      obtain ⟨k, e, s, l⟩ := p
      simp only at HPN C hk4 h12 ⊢
      have HK0 : Hid (k ≠ 0) := Lib.hid (by omega)
      have hd : decide ((2 : Int) < k) = false := decide_eq_false (by omega)
      go_enter Try.func12, Try.ntmps12
      go_upto_region 1 with (first | ((with_reducible refine wpList_plain ?_ ?_); exact rfl; intro KK hKK; refine wp_st_box HS 30 (.tmp 1) rfl _ rfl (pktA k e s (.slice D q f)) (rfl) (fun g3 W1 HSx => hKK _ _ ?_); clear hKK KK HS; have HS : St w noF [⟨g3, 30, pktA k e s (.slice D q f)⟩] W1 := HSx; clear HSx))
      have HB := Lib.hid HS.below
      go_wp2_with (first | ((with_reducible refine wpList_plain ?_ ?_); exact rfl; intro KK hKK; refine wp_st_load HS 0 0 30 (.tmp 3) rfl rfl rfl (pktA k e s (.slice D q f)) (slab_whole _) _ Try.underlying30 rfl (by exact size_pkt) (hKK _ _ ?_); clear hKK KK))
      refine (C.out _ HB.out).mono ?_
      rintro x w2 ⟨rfl, hb⟩
      have HSx := HS.same hb
      have HB2 := Lib.hid (HB.out.trans (hb.mono HB.out.size))
      clear HS hb C
      have c0 : w2.cell? ⟨g3, 0, none⟩ = some (.int .i64 k) := (HSx.row 0 rfl).get rfl
      have c1 : w2.cell? ⟨g, 0, none⟩ = some (.bool false) := (HR.out.call HB2.out).get rfl
      have HRG := Lib.hid (HR.out.call HB2.out)
      have HR3 := Lib.hid (HSx.row 0 rfl)
      have HG3 : Hid (w.heap.size ≤ g3) := Lib.hid ((HSx.own 0 ⟨g3, 30, pktA k e s (.slice D q f)⟩ rfl).resolve_left (fun h => h))
      have HNE : Hid (g ≠ g3) := Lib.hid (fun e => by have := HR.out.lt; have := HG3.out; omega)
      go_upto_region 5 with fail
      clear c0 c1 hd HSx
      have hF0 : Wl [(fun W => St w2 (fun i => i = g ∨ i = g3) [⟨g, 35, rsnC false wz S.o S.p (.slice A n c) (.slice B m d) S.n S.t⟩, ⟨g3, 30, pktA k e s (.slice D q f)⟩] W), (fun W => St w2 (fun i => i = g ∨ i = g3) [⟨g, 35, rsnC true wz S.o S.p (.slice A n c) (.slice B m d) S.n S.t⟩, ⟨g3, 30, pktA k e s (.slice D q f)⟩] W), (fun W => St w2 (fun i => i = g ∨ i = g3) [⟨g, 35, rsnC true wz ⟨k, e, s, l⟩ S.p (.slice D q f) (.slice B m d) S.n S.t⟩, ⟨g3, 30, pktA k e s (.slice D q f)⟩] W), (fun W => St w2 (fun i => i = g ∨ i = g3) [⟨g, 35, rsnC true wz ⟨k, e, s, l⟩ S.p (.slice D q f) (.slice B m d) 0 S.t⟩, ⟨g3, 30, pktA k e s (.slice D q f)⟩] W), (fun W => St w2 (fun i => i = g ∨ i = g3) [⟨g, 35, rsnC true wz ⟨k, e, s, l⟩ S.p (.slice D q f) (.slice B m d) 0 false⟩, ⟨g3, 30, pktA k e s (.slice D q f)⟩] W)] 0 (World.drew _) := (st_two HRG.out HR3.out HNE.out).same (Below.refl _ _).drew
      refine wp_region_phs [is (.pointer (some ⟨g, 0, none⟩)), is (.pointer (some ⟨g, 0, none⟩)), is (.pointer (some ⟨g, 0, none⟩)), is (.pointer (some ⟨g, 0, none⟩)), is (.agg (pktA k e s (.slice D q f))), is (.pointer (some ⟨g, 0, none⟩)), is (.pointer (some ⟨g, 0, none⟩)), anyV, is (.pointer (some ⟨g, 0, none⟩)), is (.pointer (some ⟨g, 2, none⟩)), anyV, is (.pointer (some ⟨g, 0, none⟩)), is (.pointer (some ⟨g, 10, none⟩)), anyV, is (.pointer (some ⟨g, 0, none⟩)), is (.pointer (some ⟨g, 11, none⟩)), anyV] [true, true, true, true, true, true, true, true, true, true, true, true, true, true, true, true, true] [(fun W => St w2 (fun i => i = g ∨ i = g3) [⟨g, 35, rsnC false wz S.o S.p (.slice A n c) (.slice B m d) S.n S.t⟩, ⟨g3, 30, pktA k e s (.slice D q f)⟩] W), (fun W => St w2 (fun i => i = g ∨ i = g3) [⟨g, 35, rsnC true wz S.o S.p (.slice A n c) (.slice B m d) S.n S.t⟩, ⟨g3, 30, pktA k e s (.slice D q f)⟩] W), (fun W => St w2 (fun i => i = g ∨ i = g3) [⟨g, 35, rsnC true wz ⟨k, e, s, l⟩ S.p (.slice D q f) (.slice B m d) S.n S.t⟩, ⟨g3, 30, pktA k e s (.slice D q f)⟩] W), (fun W => St w2 (fun i => i = g ∨ i = g3) [⟨g, 35, rsnC true wz ⟨k, e, s, l⟩ S.p (.slice D q f) (.slice B m d) 0 S.t⟩, ⟨g3, 30, pktA k e s (.slice D q f)⟩] W), (fun W => St w2 (fun i => i = g ∨ i = g3) [⟨g, 35, rsnC true wz ⟨k, e, s, l⟩ S.p (.slice D q f) (.slice B m d) 0 false⟩, ⟨g3, 30, pktA k e s (.slice D q f)⟩] W)] [false, false, false, false, false, false, false, true, false, false, true, false, false, true, false, false, true] [some 0, none, none, none, none, some 0, some 0, some 0, some 1, some 1, some 1, some 2, some 2, some 2, some 3, some 3, some 3] [some 17, some 18, some 19, some 20, some 21, some 22, some 23, none, some 24, some 25, none, some 26, some 27, none, some 28, some 29, none] 17 4 (fun _ => true) rfl rfl (by kernel_rfl) (by kernel_rfl) (by kernel_rfl) (by kernel_rfl) ?_ ?_ ?_ ?_ ?_ ?_
      · repeat first | exact wok_nil | refine wok_cons (by first | exact fun _ _ h k => h.same k) ?_
      · repeat first | exact vok_nil | refine vok_rig (by first | exact fun _ _ _ h => h) ?_ | refine vok_soft (by first | exact fun _ _ _ h _ => h) ?_
      · exact hF0
      · repeat first | exact all_end (by decide) | refine all_cons (by first | exact rfl | exact ⟨rfl, fun _ _ h => Or.inl h⟩ | exact ⟨rfl, fun _ _ h => Or.inr ⟨h, rfl⟩⟩) ?_
      · refine allp_mild 0 rfl rfl rfl (fun a x_ W hout hin hP => ?_) ?_
        · have e0 : a.tmps[0]? = some (.pointer (some ⟨g, 0, none⟩)) := (hout 0 (by kernel_rfl)).trans rfl
          exact does_move rfl e0 ⟨Same.refl _, rfl⟩
        refine allp_pure rfl rfl (fun a x_ W hout hin => ?_) ?_
        · have e0 : a.tmps[0]? = some (.pointer (some ⟨g, 0, none⟩)) := (hout 0 (by kernel_rfl)).trans rfl
          exact does_move rfl e0 ⟨rfl, rfl⟩
        refine allp_pure rfl rfl (fun a x_ W hout hin => ?_) ?_
        · have e0 : a.tmps[0]? = some (.pointer (some ⟨g, 0, none⟩)) := (hout 0 (by kernel_rfl)).trans rfl
          exact does_move rfl e0 ⟨rfl, rfl⟩
        refine allp_pure rfl rfl (fun a x_ W hout hin => ?_) ?_
        · have e0 : a.tmps[0]? = some (.pointer (some ⟨g, 0, none⟩)) := (hout 0 (by kernel_rfl)).trans rfl
          exact does_move rfl e0 ⟨rfl, rfl⟩
        refine allp_any rfl rfl (fun a x_ W hout hin hP => ?_) ?_
        · have e3 : a.tmps[3]? = some (.pointer (some ⟨g3, 0, none⟩)) := (hout 3 (by kernel_rfl)).trans rfl
          have hr : Row W g3 30 (pktA k e s (.slice D q f)) := wl_any (S := fun W => Row W g3 30 (pktA k e s (.slice D q f))) (fun F hF W9 hFW => by simp only [List.mem_cons, List.not_mem_nil, or_false] at hF; rcases hF with rfl | rfl | rfl | rfl | rfl <;> exact hFW.row 1 rfl) hP
          clear hP
          clear hin hout
          intro K Q hK
          exact wp_load_mid 30 (.tmp 3) rfl g3 0 (eval_of_get e3) (pktA k e s (.slice D q f)).toList _ (hr.slab 0 _ (slab_whole _)) Try.underlying30 rfl (by exact size_pkt) (hK _ _ ⟨rfl, rfl⟩)
        refine allp_mild 0 rfl rfl rfl (fun a x_ W hout hin hP => ?_) ?_
        · have e17 := hin.is 0 17 (by kernel_rfl) (by decide) (by kernel_rfl) (by kernel_rfl) _ rfl
          clear hP
          clear hin hout
          intro K Q hK
          go_simp
          exact hK _ _ ⟨Same.refl _, rfl⟩
        refine allp_mild 0 rfl rfl rfl (fun a x_ W hout hin hP => ?_) ?_
        · have e22 := hin.is 5 22 (by kernel_rfl) (by decide) (by kernel_rfl) (by kernel_rfl) _ rfl
          clear hP
          clear hin hout
          intro K Q hK
          go_simp
          exact hK _ _ ⟨Same.refl _, rfl⟩
        refine allp_wild 0 rfl rfl rfl (fun a x_ W hout hin hP => ?_) ?_
        · have e23 := hin.is 6 23 (by kernel_rfl) (by decide) (by kernel_rfl) (by kernel_rfl) _ rfl
          clear hin hout
          intro K Q hK
          exact wp_st_put hP 0 0 4 (.tmp 23) (.const (.bool true)) rfl rfl (eval_of_get e23) (.bool true) rfl (by kernel_rfl) rfl rfl (by show 0 < 12; decide) (rsnC true wz S.o S.p (.slice A n c) (.slice B m d) S.n S.t) (by exact rfl) (fun W9 HSx => hK _ _ ⟨HSx, trivial⟩)
        refine allp_mild 1 rfl rfl rfl (fun a x_ W hout hin hP => ?_) ?_
        · have e18 := hin.is 1 18 (by kernel_rfl) (by decide) (by kernel_rfl) (by kernel_rfl) _ rfl
          clear hP
          clear hin hout
          intro K Q hK
          go_simp
          exact hK _ _ ⟨Same.refl _, rfl⟩
        refine allp_mild 1 rfl rfl rfl (fun a x_ W hout hin hP => ?_) ?_
        · have e24 := hin.is 8 24 (by kernel_rfl) (by decide) (by kernel_rfl) (by kernel_rfl) _ rfl
          clear hP
          clear hin hout
          intro K Q hK
          go_simp
          exact hK _ _ ⟨Same.refl _, rfl⟩
        refine allp_wild 1 rfl rfl rfl (fun a x_ W hout hin hP => ?_) ?_
        · have e25 := hin.is 9 25 (by kernel_rfl) (by decide) (by kernel_rfl) (by kernel_rfl) _ rfl
          have e21 := hin.is 4 21 (by kernel_rfl) (by decide) (by kernel_rfl) (by kernel_rfl) _ rfl
          clear hin hout
          intro K Q hK
          exact wp_st_store hP 0 2 30 (.tmp 25) (.tmp 21) rfl rfl (eval_of_get e25) (.agg (pktA k e s (.slice D q f))) (eval_of_get e21) (by exact size_pkt) (by show 2 + 4 ≤ 12; decide) (pkt_one ..) (rsnC true wz ⟨k, e, s, l⟩ S.p (.slice D q f) (.slice B m d) S.n S.t) (by exact rfl) (fun W9 HSx => hK _ _ ⟨HSx, trivial⟩)
        refine allp_mild 2 rfl rfl rfl (fun a x_ W hout hin hP => ?_) ?_
        · have e19 := hin.is 2 19 (by kernel_rfl) (by decide) (by kernel_rfl) (by kernel_rfl) _ rfl
          clear hP
          clear hin hout
          intro K Q hK
          go_simp
          exact hK _ _ ⟨Same.refl _, rfl⟩
        refine allp_mild 2 rfl rfl rfl (fun a x_ W hout hin hP => ?_) ?_
        · have e26 := hin.is 11 26 (by kernel_rfl) (by decide) (by kernel_rfl) (by kernel_rfl) _ rfl
          clear hP
          clear hin hout
          intro K Q hK
          go_simp
          exact hK _ _ ⟨Same.refl _, rfl⟩
        refine allp_wild 2 rfl rfl rfl (fun a x_ W hout hin hP => ?_) ?_
        · have e27 := hin.is 12 27 (by kernel_rfl) (by decide) (by kernel_rfl) (by kernel_rfl) _ rfl
          clear hin hout
          intro K Q hK
          exact wp_st_put hP 0 10 3 (.tmp 27) (.const (.int .i64 0)) rfl rfl (eval_of_get e27) (.int .i64 0) rfl (by kernel_rfl) rfl rfl (by show 10 < 12; decide) (rsnC true wz ⟨k, e, s, l⟩ S.p (.slice D q f) (.slice B m d) 0 S.t) (by exact rfl) (fun W9 HSx => hK _ _ ⟨HSx, trivial⟩)
        refine allp_mild 3 rfl rfl rfl (fun a x_ W hout hin hP => ?_) ?_
        · have e20 := hin.is 3 20 (by kernel_rfl) (by decide) (by kernel_rfl) (by kernel_rfl) _ rfl
          clear hP
          clear hin hout
          intro K Q hK
          go_simp
          exact hK _ _ ⟨Same.refl _, rfl⟩
        refine allp_mild 3 rfl rfl rfl (fun a x_ W hout hin hP => ?_) ?_
        · have e28 := hin.is 14 28 (by kernel_rfl) (by decide) (by kernel_rfl) (by kernel_rfl) _ rfl
          clear hP
          clear hin hout
          intro K Q hK
          go_simp
          exact hK _ _ ⟨Same.refl _, rfl⟩
        refine allp_wild 3 rfl rfl rfl (fun a x_ W hout hin hP => ?_) ?_
        · have e29 := hin.is 15 29 (by kernel_rfl) (by decide) (by kernel_rfl) (by kernel_rfl) _ rfl
          clear hin hout
          intro K Q hK
          exact wp_st_put hP 0 11 4 (.tmp 29) (.const (.bool false)) rfl rfl (eval_of_get e29) (.bool false) rfl (by kernel_rfl) rfl rfl (by show 11 < 12; decide) (rsnC true wz ⟨k, e, s, l⟩ S.p (.slice D q f) (.slice B m d) 0 false) (by exact rfl) (fun W9 HSx => hK _ _ ⟨HSx, trivial⟩)
        exact all_end (by decide)
      · intro x_ W hP hV
        have HST := Lib.hid hP
        clear hP hV
        simp only [putL, Act.put, List.setIfInBounds_toArray, List.set_cons_succ, List.set_cons_zero]
        refine wpAnyH_done (by kernel_rfl) ?_ _
        go_wp2_with fail
        go_ret
        have KF : ∀ i, (i = g ∨ i = g3) → i < w2.heap.size → ∃ t cs, Row w2 i t cs ∧ NoU8 cs := fun i hi _ => by
          rcases hi with hi | hi
          · rw [hi]; exact ⟨_, _, HRG.out, nou8_rsn _ _ _ _ _ _ _ _ _ _ _ _⟩
          · rw [hi]; exact ⟨_, _, HR3.out, nou8_pkt _ _ _ _ _ _⟩
        exact ⟨rfl, ⟨D, q, f, B, m, d, true, wz, HST.out.row 0 rfl, puts_keep (HPN.out.below HB2.out (Nat.le_refl _)) HST.out.chg KF, puts_keep (HPP.out.below HB2.out (Nat.le_refl _)) HST.out.chg KF, (decide_eq_true HK0.out).symm, HWZ.out⟩, (Chg.of_below (F := (fun k => k = g)) HB2.out).trans HST.out.chg (fun i hi => by rcases hi with hi | hi; exact .inl hi; rw [hi]; exact .inr HG3.out)⟩
    · have hE : sendE S p = 19 := by unfold sendE; rw [hO, if_pos rfl, if_neg h0]
      have hS : sendS S p = S := if_neg (fun h => h0 h.2)
      obtain rfl : iz = true := by rw [HIZ.out]; exact decide_eq_true h0
      rw [hE, hS]
      clear hE hS hO hm h0
      obtain ⟨k, e, s, l⟩ := p
      simp only at HPN C hk4 h12 ⊢
      have hd : decide ((2 : Int) < k) = false := decide_eq_false (by omega)
      go_enter Try.func12, Try.ntmps12
      go_upto_region 1 with (first | ((with_reducible refine wpList_plain ?_ ?_); exact rfl; intro KK hKK; refine wp_st_box HS 30 (.tmp 1) rfl _ rfl (pktA k e s (.slice D q f)) (rfl) (fun g3 W1 HSx => hKK _ _ ?_); clear hKK KK HS; have HS : St w noF [⟨g3, 30, pktA k e s (.slice D q f)⟩] W1 := HSx; clear HSx))
      have HB := Lib.hid HS.below
      go_wp2_with (first | ((with_reducible refine wpList_plain ?_ ?_); exact rfl; intro KK hKK; refine wp_st_load HS 0 0 30 (.tmp 3) rfl rfl rfl (pktA k e s (.slice D q f)) (slab_whole _) _ Try.underlying30 rfl (by exact size_pkt) (hKK _ _ ?_); clear hKK KK))
      refine (C.out _ HB.out).mono ?_
      rintro x w2 ⟨rfl, hb⟩
      have HSx := HS.same hb
      have HB2 := Lib.hid (HB.out.trans (hb.mono HB.out.size))
      clear HS hb C
      have c0 : w2.cell? ⟨g3, 0, none⟩ = some (.int .i64 k) := (HSx.row 0 rfl).get rfl
      have c1 : w2.cell? ⟨g, 0, none⟩ = some (.bool true) := (HR.out.call HB2.out).get rfl
      go_wp2_with fail
      go_ret
      exact ⟨rfl, RsnAt.call ⟨A, n, c, B, m, d, true, wz, HR.out, HPO.out, HPP.out, HIZ.out, HWZ.out⟩ HB2.out, Chg.of_below HB2.out⟩
def pickI (u : BitVec 16) : Int := if pickB u then ((pickK u : Nat) : Int) else -1
set_option maxHeartbeats 800000 in
theorem rpick_any (u : BitVec 16) (w : World) : Calls Try.prog 25 #[.int .u16 (hd u)] w fun x w' => x = .returned (.int .i64 (pickI u)) ∧ w = w' := by
  go_enter Try.func25, Try.ntmps25
  go_wp2_with fail
  go_loopw [3] (fun i wr => ∃ k : Nat, 1 ≤ k ∧ k ≤ 12 ∧ i = .int .i64 k ∧ Hid (∀ j, 1 ≤ j → j < k → u.getLsbD j = false) ∧ w = wr) (fun i _ => 12 - (intOf i).toNat)
  case atStart => exact ⟨1, by omega, by omega, rfl, Lib.hid (fun j _ _ => by omega), rfl⟩
  case round =>
    obtain ⟨k, hk1, hk, rfl, HE, rfl⟩ := hrel
    by_cases hlt : k < 12
    · have hdd : decide ((k : Int) < 12) = true := decide_eq_true (by omega)
      have hsh := bit_shrP u k
      obtain ⟨q, hq⟩ : ∃ q, u.getLsbD k = q := ⟨_, rfl⟩
      rw [hq] at hsh
      have HQ := Lib.hid hq
      clear hq
      cases q with
      | true =>
        have hsh : bits .and .u16 (hd u / (2 : Int) ^ k) 1 = 1 := hsh
        have hP := pick_hit hk1 hlt HQ.out HE.out
        have hB : pickB u = true := by unfold pickB; rw [hP, decide_eq_true (by omega : k ≠ 0)]; rfl
        have HP := Lib.hid hP
        have HB := Lib.hid hB
        clear hP hB
        go_wp2_with fail
        go_ret
        exact ⟨by unfold pickI; rw [HB.out, HP.out]; rfl, rfl⟩
      | false =>
        have hsh : bits .and .u16 (hd u / (2 : Int) ^ k) 1 = 0 := hsh
        go_wp2_with fail
        refine ⟨⟨k + 1, by omega, by omega, by go_num, Lib.hid (fun j h1 hj => ?_), by first | rfl | trivial⟩, by simp [intOf]; omega⟩
        rcases Nat.lt_or_eq_of_le (Nat.le_of_lt_succ hj) with h | rfl
        · exact HE.out j h1 h
        · exact HQ.out
    · obtain rfl : k = 12 := by omega
      have hdd : decide (((12 : Nat) : Int) < 12) = false := by decide
      have hP := pick_no HE.out
      have hB : pickB u = u.getLsbD 0 := by unfold pickB; rw [hP]; rfl
      have HP := Lib.hid hP
      have HB := Lib.hid hB
      have hsh := bit_shrP u 0
      rw [Int.pow_zero, Int.ediv_one] at hsh
      obtain ⟨q, hq⟩ : ∃ q, u.getLsbD 0 = q := ⟨_, rfl⟩
      rw [hq] at hsh HB
      clear hP hB hq
      cases q with
      | true =>
        have hsh : bits .and .u16 (hd u) 1 = 1 := hsh
        go_wp2_with fail
        go_ret
        exact ⟨by unfold pickI; rw [HB.out, HP.out]; rfl, rfl⟩
      | false =>
        have hsh : bits .and .u16 (hd u) 1 = 0 := hsh
        go_wp2_with fail
        go_ret
        exact ⟨by unfold pickI; rw [HB.out]; rfl, rfl⟩
end Go.Proofs.Ytppbgkdkioldbaa

/- The document's Touch. -/
set_option maxRecDepth 4000
namespace Go.Proofs.Ytppbgkdkioldbaa
open Go Go.RowKit
theorem bit1_get (i : Int) (j : Nat) (hj : j < 12) : (bit1 i).getLsbD j = decide (i = (j : Int)) := by
  unfold bit1
  by_cases h : 0 ≤ i ∧ i < 12
  · rw [if_pos h]
    obtain ⟨k, rfl⟩ : ∃ k : Nat, i = k := ⟨i.toNat, by omega⟩
    rw [show ((k : Int)).toNat = k from Int.toNat_natCast k, BitVec.getLsbD_shiftLeft, BitVec.getLsbD_one]
    by_cases e : k = j
    · subst e; simp; omega
    · rw [decide_eq_false (show ¬ ((k : Int) = (j : Int)) by omega)]
      by_cases h2 : j < k
      · simp [h2]
      · have : j - k ≠ 0 := by omega
        simp [this]
  · rw [if_neg h, BitVec.getLsbD_zero, decide_eq_false (fun e => h (by omega))]
theorem bits_fold (j : Nat) (hj : j < 12) (L : List Int) : ∀ v : BitVec 16, (L.foldl (fun v i => v ||| bit1 i) v).getLsbD j = (v.getLsbD j || decide ((j : Int) ∈ L)) := by
  induction L with
  | nil => intro v; simp
  | cons i L ih =>
    intro v
    rw [List.foldl_cons, ih, BitVec.getLsbD_or, bit1_get i j hj, Bool.or_assoc]
    congr 1
    by_cases h1 : i = (j : Int)
    · rw [h1]; simp
    · rw [decide_eq_false h1, Bool.false_or]
      refine decide_eq_decide.2 ⟨fun h => List.mem_cons_of_mem _ h, fun h => (List.mem_cons.1 h).resolve_left (fun e => h1 e.symm)⟩
theorem bits_mem (L : List Int) (d : Nat) (hd : d < 12) : (bitsOf L &&& bitsOf [(d : Int)] ≠ 0#16) ↔ (d : Int) ∈ L := by
  have h1 : (bitsOf L).getLsbD d = decide ((d : Int) ∈ L) := by unfold bitsOf; rw [bits_fold d hd L]; simp
  have h2 : ∀ j < 12, (bitsOf [(d : Int)]).getLsbD j = decide (d = j) := fun j hj => by
    unfold bitsOf
    rw [bits_fold j hj]
    simp; omega
  constructor
  · intro h
    apply Decidable.byContradiction
    intro hn
    refine h (BitVec.eq_of_getLsbD_eq fun j hj => ?_)
    rw [BitVec.getLsbD_and, BitVec.getLsbD_zero]
    by_cases hj12 : j < 12
    · rw [h2 j hj12]
      by_cases e : d = j
      · subst e; rw [h1, decide_eq_false hn]; rfl
      · rw [decide_eq_false e, Bool.and_false]
    · have : (bitsOf [(d : Int)]).getLsbD j = false := by
        unfold bitsOf
        simp only [List.foldl_cons, List.foldl_nil, BitVec.getLsbD_or, BitVec.getLsbD_zero, Bool.false_or]
        unfold bit1
        rw [if_pos ⟨by omega, by omega⟩, show ((d : Int)).toNat = d from Int.toNat_natCast d, BitVec.getLsbD_shiftLeft, BitVec.getLsbD_one]
        have : j - d ≠ 0 := by omega
        simp [this]
      rw [this, Bool.and_false]
  · intro h e
    have := congrArg (fun v => BitVec.getLsbD v d) e
    simp only [BitVec.getLsbD_and, BitVec.getLsbD_zero] at this
    rw [h1, h2 d hd, decide_eq_true h, decide_eq_true rfl] at this
    cases this
theorem puts_blk {w : World} {g b o n c : Nat} {t : TypeId} {cs : Array Value} {l : List Pt} (h : PutsAt w (.slice (some ⟨b, o, none⟩) n c) l) (hne : l ≠ []) (hr : Row w g t cs) (hn : NoU8 cs) : b ≠ g := by
  rintro rfl
  obtain ⟨A, c', h1, h2, h3, h4⟩ := h
  injection h1 with h1 _ _
  subst h1
  obtain ⟨b', o', h5, h6, h7⟩ := h4 hne
  injection h5 with h5
  injection h5 with h5 h5b _
  subst h5 h5b
  obtain ⟨x, hx⟩ : ∃ x, l[0]? = some x := ⟨_, List.getElem?_eq_getElem (List.length_pos_iff.2 hne)⟩
  have hq := (h3 x (List.mem_of_getElem? hx)).1
  have hc := h7 0 x hx 1 (.int .u8 (bd (x.2.getD 0 0#8))) (by
    show (bytesV x.2)[0]? = _
    cases hl : x.2 with
    | nil => rw [hl] at hq; cases hq
    | cons y t => rfl)
  rw [hr.cell] at hc
  exact hn _ _ hc _ rfl
set_option maxRecDepth 20000 in
set_option maxHeartbeats 3200000 in
theorem rtouch_any (g : Nat) (S : Snd) (l : List Pt) (Q0 : Option Addr) (z f : Nat) (w : World) (h : RsnAt w g S) (hok : OutOk S) (hl : PutsAt w (.slice Q0 z f) l) (hln : l.length ≤ 1000000) :
    Calls Try.prog 16 #[.pointer (some ⟨g, 0, none⟩), .slice Q0 z f] w fun x w' => x = .returned (.tuple #[]) ∧ RsnAt w' g (touchS S l) ∧ Chg (fun k => k = g) w w' := by
  have hzl := puts_len hl
  obtain ⟨A, n, c, B, m, d, iz, wz, hr, hpo, hpp, hiz, hwz⟩ := h
  by_cases h2 : S.o.k = 2
  case neg =>
    have hS : touchS S l = S := by unfold touchS touchB; rw [decide_eq_false h2]; exact if_neg (fun h => by cases h)
    rw [hS]
    have c0 : w.cell? ⟨g, 0, none⟩ = some (.bool iz) := hr.get rfl
    have c2 : w.cell? ⟨g, 2, none⟩ = some (.int .i64 S.o.k) := hr.get rfl
    have hne : (S.o.k == 2) = false := beq_eq_false_iff_ne.2 h2
    have HRES : Hid (RsnAt w g S) := Lib.hid ⟨A, n, c, B, m, d, iz, wz, hr, hpo, hpp, hiz, hwz⟩
    clear hS h2 hok hr hpo hpp hiz hwz hl
    go_enter Try.func16, Try.ntmps16
    go_wp2_with fail
    go_loopw [4] (fun i wr => i = .int .i64 0 ∧ w = wr) (fun _ _ => 0)
    case atStart => exact ⟨rfl, rfl⟩
    case round =>
      obtain ⟨rfl, rfl⟩ := hrel
      by_cases hz : z = 0
      · have hz0 : ¬ ((0 : Int) < (z : Int)) := by omega
        have hz1 : ¬ (0 < z) := by omega
        go_wp2_with fail
        go_end0
        exact ⟨rfl, HRES.out, Chg.refl _ _⟩
      · have hz0 : (0 : Int) < (z : Int) := by omega
        have hz1 : 0 < z := by omega
        cases iz
        all_goals
          go_wp2_with fail
          go_end0
          exact ⟨rfl, HRES.out, Chg.refl _ _⟩
  have hop : opB S.o = true := hok.resolve_left (fun h => by rw [h] at h2; cases h2)
  have hpos := (opB_put hop).1
  have hgood := opB_may hop
  obtain rfl : iz = true := by rw [hiz]; exact decide_eq_true (by rw [h2]; decide)
  have hnl := puts_len hpo
  obtain ⟨⟨D, q0⟩, hx⟩ : ∃ x, S.o.l[0]? = some x := ⟨_, List.getElem?_eq_getElem hpos⟩
  have hT1 : S.o.l.take 1 = [(D, q0)] := by rw [List.take_one, List.head?_eq_getElem?, hx]; rfl
  have hD : 0 ≤ D ∧ D < 12 := by
    unfold mayP at hgood
    rw [if_pos (.inr h2)] at hgood
    unfold goodB at hgood
    have h9 : ∀ k < (S.o.l.map (·.1)).length, okAt (S.o.l.map (·.1)) k := of_decide_eq_true (Bool.and_eq_true _ _ ▸ hgood).1
    have := h9 0 (by rw [List.length_map]; exact hpos)
    unfold okAt at this
    rw [show (S.o.l.map (·.1)).getD 0 0 = D by rw [List.getD_eq_getElem?_getD, List.getElem?_map, hx]; rfl] at this
    exact ⟨this.1, this.2.1⟩
  obtain ⟨bo, oo, rfl, hbo, hro, _, _, _⟩ := put_at_mem hpo hnl hx
  rw [Nat.zero_mul, Nat.add_zero] at hro
  obtain ⟨T, hT⟩ : ∃ T : Nat → Bool, ∀ k, T k = (S.t || decide (D ∈ (l.take k).map (·.1))) := ⟨_, fun _ => rfl⟩
  have hT0 : T 0 = S.t := by rw [hT]; simp
  have hTS : ∀ k x, l[k]? = some x → T (k + 1) = (T k || decide (x.1 = D)) := fun k x hx => by
    rw [hT, hT, List.take_add_one, hx, Bool.or_assoc]
    congr 1
    by_cases e : x.1 = D
    · simp [e]
    · rw [decide_eq_false e, Bool.or_false]
      refine decide_eq_decide.2 ?_
      rw [List.map_append, List.mem_append]
      constructor
      · rintro (h | h)
        · exact h
        · simp at h; exact absurd h.symm e
      · exact .inl
  have hB : touchB S l = decide (D ∈ l.map (·.1)) := by
    obtain ⟨d0, hd0⟩ : ∃ d0 : Nat, D = d0 := ⟨D.toNat, by omega⟩
    unfold touchB
    rw [decide_eq_true h2, hT1, Bool.true_and, hd0]
    exact decide_eq_decide.2 (bits_mem (l.map (·.1)) d0 (by omega))
  have hEND : touchS S l = ⟨S.o, S.p, S.n, T l.length⟩ := by
    unfold touchS
    rw [hB, hT, List.take_of_length_le (Nat.le_refl _)]
    by_cases e : D ∈ l.map (·.1)
    · rw [decide_eq_true e, if_pos rfl, Bool.or_true]
    · rw [decide_eq_false e, if_neg (fun h => by cases h), Bool.or_false]
  rw [hEND, hzl]
  have HTS := Lib.hid hTS
  have HN1 : Hid (0 < n) := Lib.hid (by omega)
  have HR := Lib.hid hr
  have HPO := Lib.hid hpo
  have HPP := Lib.hid hpp
  have HWZ := Lib.hid hwz
  have HK2 := Lib.hid h2
  have HL := Lib.hid hl
  have HZL := Lib.hid hzl
  have HLN := Lib.hid hln
  have HBO := Lib.hid hbo
  have HCD : Hid (w.cell? ⟨bo, oo, none⟩ = some (.int .i64 D)) := Lib.hid (hro 0 _ rfl)
  have HOG : Hid (bo ≠ g) := Lib.hid (puts_blk hpo (by intro e; rw [e] at hpos; exact absurd hpos (by decide)) hr (nou8_rsn _ _ _ _ _ _ _ _ _ _ _ _))
  have HS0 : Hid (St w (fun k => k = g) [⟨g, 35, rsnC true wz S.o S.p (.slice (some ⟨bo, oo, none⟩) n c) (.slice B m d) S.n (T 0)⟩] w) := Lib.hid (by rw [hT0]; exact st_only hr)
  clear hok hop hpos hgood hx hT1 hD hro hT hT0 hTS hB hEND hr hpo hpp hwz hl hln hbo hnl h2 hiz
  go_enter Try.func16, Try.ntmps16
  go_wp2_with fail
  go_loopw [4] (fun i wr => ∃ j : Nat, j ≤ z ∧ i = .int .i64 j ∧ St w (fun k => k = g) [⟨g, 35, rsnC true wz S.o S.p (.slice (some ⟨bo, oo, none⟩) n c) (.slice B m d) S.n (T j)⟩] wr) (fun i _ => z - (intOf i).toNat)
  case atStart => exact ⟨0, by omega, rfl, HS0.out⟩
  case round =>
    obtain ⟨j, hj, rfl, hst⟩ := hrel
    have c0 : wr.cell? ⟨g, 0, none⟩ = some (.bool true) := (hst.row 0 rfl).get rfl
    have c2 : wr.cell? ⟨g, 2, none⟩ = some (.int .i64 2) := by
      have h9 : wr.cell? ⟨g, 2, none⟩ = some (.int .i64 S.o.k) := (hst.row 0 rfl).get rfl
      rw [HK2.out] at h9
      exact h9
    have HST := Lib.hid hst
    have hz6 : z ≤ 1000000 := by rw [← HZL.out]; exact HLN.out
    clear hst HS0
    by_cases hlt : j < z
    · obtain ⟨⟨Y, q⟩, hx⟩ : ∃ x, l[j]? = some x := ⟨_, List.getElem?_eq_getElem (by rw [HZL.out]; exact hlt)⟩
      have HTJ : Hid (T (j + 1) = (T j || decide (Y = D))) := Lib.hid (HTS.out j _ hx)
      obtain ⟨b, o, rfl, hbw, hr, _, _, _⟩ := put_at_mem HL.out HZL.out hx
      have HBG0 : Hid (b ≠ g) := Lib.hid (puts_blk HL.out (by intro e; rw [e] at hx; cases hx) HR.out (nou8_rsn _ _ _ _ _ _ _ _ _ _ _ _))
      obtain ⟨O, hO⟩ : ∃ O, o + j * 33 = O := ⟨_, rfl⟩
      rw [hO] at hr
      have HO := Lib.hid hO
      have HBW := Lib.hid (Nat.lt_of_lt_of_le hbw HST.out.chg.size)
      have HCY : Hid (wr.cell? ⟨b, O, none⟩ = some (.int .i64 Y)) := Lib.hid ((World.cell?_of_block (HST.out.chg.block b hbw HBG0.out)).trans (hr 0 _ rfl))
      have HCDx : Hid (wr.cell? ⟨bo, oo, none⟩ = some (.int .i64 D)) := Lib.hid ((World.cell?_of_block (HST.out.chg.block bo HBO.out HOG.out)).trans HCD.out)
      have HBOx := Lib.hid (Nat.lt_of_lt_of_le HBO.out HST.out.chg.size)
      have hk0 : (0 : Int) ≤ (j : Int) := by omega
      have hk1 : (j : Int) < (z : Int) := by omega
      have HK0 := Lib.hid hk0
      have HK1 := Lib.hid hk1
      have HBG := HBG0
      clear hx hr hbw hO
      go_upto_region 3 with fail
      clear c0 c2 hk0 hk1 HCD HBO
      have HCD := HCDx
      have HBO := HBOx
      clear HCDx HBOx
      cases htj : T j with
      | true =>
        rw [htj] at HST HTJ
        have HTB : Hid (T (j + 1) = true) := Lib.hid (by rw [HTJ.out]; rfl)
        clear htj HTJ
        have hF0 : Wl [(fun W => St wr (fun k => k = g) [⟨g, 35, rsnC true wz S.o S.p (.slice (some ⟨bo, oo, none⟩) n c) (.slice B m d) S.n true⟩] W), (fun W => St wr (fun k => k = g) [⟨g, 35, rsnC true wz S.o S.p (.slice (some ⟨bo, oo, none⟩) n c) (.slice B m d) S.n true⟩] W)] 0 (World.drew _) := (st_only (HST.out.row 0 rfl)).same (Below.refl _ _).drew
        refine wp_region_phs [is (.pointer (some ⟨g, 0, none⟩)), is (.pointer (some ⟨g, 0, none⟩)), is (.pointer (some ⟨g, 0, none⟩)), is (.pointer (some ⟨g, 11, none⟩)), is (.bool true), is (.bool true), is undef, is undef, is undef, is undef, is undef, is undef, is undef, is undef, is undef, is undef, is undef, is undef, is undef, is undef, is (.bool true), is (.pointer (some ⟨g, 0, none⟩)), is (.pointer (some ⟨g, 11, none⟩)), anyV] [true, true, true, true, true, true, true, true, true, true, true, true, true, true, true, true, true, true, true, true, true, true, true, true] [(fun W => St wr (fun k => k = g) [⟨g, 35, rsnC true wz S.o S.p (.slice (some ⟨bo, oo, none⟩) n c) (.slice B m d) S.n true⟩] W), (fun W => St wr (fun k => k = g) [⟨g, 35, rsnC true wz S.o S.p (.slice (some ⟨bo, oo, none⟩) n c) (.slice B m d) S.n true⟩] W)] [false, false, false, false, false, false, false, false, false, false, false, false, false, false, false, false, false, false, false, false, false, false, false, true] [some 0, some 0, some 0, some 0, some 0, some 0, some 0, some 0, some 0, some 0, some 0, some 0, some 0, some 0, some 0, some 0, some 0, some 0, some 0, some 0, some 0, some 0, some 0, some 0] [some 25, some 26, some 27, some 28, some 29, some 30, some 31, some 32, some 33, some 34, some 35, some 36, some 37, some 38, some 39, some 40, some 41, some 42, some 43, some 44, some 45, some 46, some 47, none] 24 1 (fun i => !([6, 7, 8, 9, 10, 11, 12, 13, 14, 15, 16, 17, 18, 19] : List Nat).contains i) rfl rfl (by kernel_rfl) (by kernel_rfl) (by kernel_rfl) (by kernel_rfl) ?_ ?_ ?_ ?_ ?_ ?_
        · repeat first | exact wok_nil | refine wok_cons (by first | exact fun _ _ h k => h.same k) ?_
        · repeat first | exact vok_nil | refine vok_rig (by first | exact fun _ _ _ h => h) ?_ | refine vok_soft (by first | exact fun _ _ _ h _ => h) ?_
        · exact hF0
        · repeat first | exact all_end (by decide) | refine all_cons (by first | exact rfl | exact ⟨rfl, fun _ _ h => Or.inl h⟩ | exact ⟨rfl, fun _ _ h => Or.inr ⟨h, rfl⟩⟩) ?_
        · refine allp_mild 0 rfl rfl rfl (fun a x_ W hout hin hP => ?_) ?_
          · have e0 : a.tmps[0]? = some (.pointer (some ⟨g, 0, none⟩)) := (hout 0 (by kernel_rfl)).trans rfl
            exact does_move rfl e0 ⟨Same.refl _, rfl⟩
          refine allp_mild 0 rfl rfl rfl (fun a x_ W hout hin hP => ?_) ?_
          · have e0 : a.tmps[0]? = some (.pointer (some ⟨g, 0, none⟩)) := (hout 0 (by kernel_rfl)).trans rfl
            exact does_move rfl e0 ⟨Same.refl _, rfl⟩
          refine allp_mild 0 rfl rfl rfl (fun a x_ W hout hin hP => ?_) ?_
          · have e26 := hin.is 1 26 (by kernel_rfl) (by decide) (by kernel_rfl) (by kernel_rfl) _ rfl
            clear hP
            clear hin hout
            intro K Q hK
            go_simp
            exact hK _ _ ⟨Same.refl _, rfl⟩
          refine allp_mild 0 rfl rfl rfl (fun a x_ W hout hin hP => ?_) ?_
          · have e27 := hin.is 2 27 (by kernel_rfl) (by decide) (by kernel_rfl) (by kernel_rfl) _ rfl
            clear hP
            clear hin hout
            intro K Q hK
            go_simp
            exact hK _ _ ⟨Same.refl _, rfl⟩
          refine allp_mild 0 rfl rfl rfl (fun a x_ W hout hin hP => ?_) ?_
          · have e28 := hin.is 3 28 (by kernel_rfl) (by decide) (by kernel_rfl) (by kernel_rfl) _ rfl
            have hc : W.cell? ⟨g, 11, none⟩ = some (.bool true) := (hP.row 0 rfl).get rfl
            clear hP
            clear hin hout
            intro K Q hK
            go_simp
            exact hK _ _ ⟨Same.refl _, rfl⟩
          refine allp_mild 0 rfl rfl rfl (fun a x_ W hout hin hP => ?_) ?_
          · have e29 := hin.is 4 29 (by kernel_rfl) (by decide) (by kernel_rfl) (by kernel_rfl) _ rfl
            exact does_move rfl e29 ⟨Same.refl _, rfl⟩
          refine allp_skip rfl rfl (fun _ => rfl) ?_
          refine allp_skip rfl rfl (fun _ => rfl) ?_
          refine allp_skip rfl rfl (fun _ => rfl) ?_
          refine allp_skip rfl rfl (fun _ => rfl) ?_
          refine allp_skip rfl rfl (fun _ => rfl) ?_
          refine allp_skip rfl rfl (fun _ => rfl) ?_
          refine allp_skip rfl rfl (fun _ => rfl) ?_
          refine allp_skip rfl rfl (fun _ => rfl) ?_
          refine allp_skip rfl rfl (fun _ => rfl) ?_
          refine allp_skip rfl rfl (fun _ => rfl) ?_
          refine allp_skip rfl rfl (fun _ => rfl) ?_
          refine allp_skip rfl rfl (fun _ => rfl) ?_
          refine allp_skip rfl rfl (fun _ => rfl) ?_
          refine allp_skip rfl rfl (fun _ => rfl) ?_
          refine allp_mild 0 rfl rfl rfl (fun a x_ W hout hin hP => ?_) ?_
          · have e30 := hin.is 5 30 (by kernel_rfl) (by decide) (by kernel_rfl) (by kernel_rfl) _ rfl
            have e44 := hin.is 19 44 (by kernel_rfl) (by decide) (by kernel_rfl) (by kernel_rfl) _ rfl
            exact does_pick rfl e30 ⟨Same.refl _, rfl⟩
          refine allp_mild 0 rfl rfl rfl (fun a x_ W hout hin hP => ?_) ?_
          · have e25 := hin.is 0 25 (by kernel_rfl) (by decide) (by kernel_rfl) (by kernel_rfl) _ rfl
            clear hP
            clear hin hout
            intro K Q hK
            go_simp
            exact hK _ _ ⟨Same.refl _, rfl⟩
          refine allp_mild 0 rfl rfl rfl (fun a x_ W hout hin hP => ?_) ?_
          · have e46 := hin.is 21 46 (by kernel_rfl) (by decide) (by kernel_rfl) (by kernel_rfl) _ rfl
            clear hP
            clear hin hout
            intro K Q hK
            go_simp
            exact hK _ _ ⟨Same.refl _, rfl⟩
          refine allp_wild 0 rfl rfl rfl (fun a x_ W hout hin hP => ?_) ?_
          · have e47 := hin.is 22 47 (by kernel_rfl) (by decide) (by kernel_rfl) (by kernel_rfl) _ rfl
            have e45 := hin.is 20 45 (by kernel_rfl) (by decide) (by kernel_rfl) (by kernel_rfl) _ rfl
            clear hin hout
            intro K Q hK
            exact wp_st_put hP 0 11 4 (.tmp 47) (.tmp 45) rfl rfl (eval_of_get e47) (.bool true) (eval_of_get e45) (by kernel_rfl) rfl rfl (by show 11 < 12; decide) (rsnC true wz S.o S.p (.slice (some ⟨bo, oo, none⟩) n c) (.slice B m d) S.n true) (by exact rfl) (fun W9 HSx => hK _ _ ⟨HSx, trivial⟩)
          exact all_end (by decide)
        · intro x_ W hP hV
          have HW := Lib.hid hP
          clear hP hV
          simp only [putL, Act.put, List.setIfInBounds_toArray, List.set_cons_succ, List.set_cons_zero]
          simp only [Nat.zero_add, Nat.reduceAdd]
          refine wpAnyH_done (by kernel_rfl) ?_ _
          go_wp2_with fail
          refine ⟨⟨j + 1, by omega, by go_num, ?_⟩, by simp [intOf]; omega⟩
          rw [HTB.out]
          exact st_then HST.out HW.out (fun i hi => .inl hi) (fun k r hk => by match k, hk with | 0, hk => cases hk; exact .inl rfl)
      | false =>
        rw [htj] at HST HTJ
        by_cases hYD : Y = D
        · have HTB : Hid (T (j + 1) = true) := Lib.hid (by rw [HTJ.out, decide_eq_true hYD]; rfl)
          have HQ : Hid ((Y == D) = true) := Lib.hid (by simp [hYD])
          clear htj hYD HTJ
          have hF0 : Wl [(fun W => St wr (fun k => k = g) [⟨g, 35, rsnC true wz S.o S.p (.slice (some ⟨bo, oo, none⟩) n c) (.slice B m d) S.n false⟩] W), (fun W => St wr (fun k => k = g) [⟨g, 35, rsnC true wz S.o S.p (.slice (some ⟨bo, oo, none⟩) n c) (.slice B m d) S.n true⟩] W)] 0 (World.drew _) := (st_only (HST.out.row 0 rfl)).same (Below.refl _ _).drew
          refine wp_region_phs [is (.pointer (some ⟨g, 0, none⟩)), is (.pointer (some ⟨g, 0, none⟩)), is (.pointer (some ⟨g, 0, none⟩)), is (.pointer (some ⟨g, 11, none⟩)), is (.bool false), is (.bool false), is (.slice (some ⟨b, o, none⟩) z f), is (.int .i64 (j : Int)), is (.pointer (some ⟨b, O, none⟩)), is (.pointer (some ⟨b, O, none⟩)), is (.int .i64 Y), is (.pointer (some ⟨g, 0, none⟩)), is (.pointer (some ⟨g, 0, none⟩)), is (.pointer (some ⟨g, 2, none⟩)), is (.pointer (some ⟨g, 5, none⟩)), is (.slice (some ⟨bo, oo, none⟩) n c), is (.pointer (some ⟨bo, oo, none⟩)), is (.pointer (some ⟨bo, oo, none⟩)), is (.int .i64 D), is (.bool true), is (.bool true), is (.pointer (some ⟨g, 0, none⟩)), is (.pointer (some ⟨g, 11, none⟩)), anyV] [true, true, true, true, true, true, true, true, true, true, true, true, true, true, true, true, true, true, true, true, true, true, true, true] [(fun W => St wr (fun k => k = g) [⟨g, 35, rsnC true wz S.o S.p (.slice (some ⟨bo, oo, none⟩) n c) (.slice B m d) S.n false⟩] W), (fun W => St wr (fun k => k = g) [⟨g, 35, rsnC true wz S.o S.p (.slice (some ⟨bo, oo, none⟩) n c) (.slice B m d) S.n true⟩] W)] [false, false, false, false, false, false, false, false, false, false, false, false, false, false, false, false, false, false, false, false, false, false, false, true] [some 0, some 0, some 0, some 0, some 0, some 0, some 0, some 0, some 0, some 0, some 0, some 0, some 0, some 0, some 0, some 0, some 0, some 0, some 0, some 0, some 0, some 0, some 0, some 0] [some 25, some 26, some 27, some 28, some 29, some 30, some 31, some 32, some 33, some 34, some 35, some 36, some 37, some 38, some 39, some 40, some 41, some 42, some 43, some 44, some 45, some 46, some 47, none] 24 1 (fun _ => true) rfl rfl (by kernel_rfl) (by kernel_rfl) (by kernel_rfl) (by kernel_rfl) ?_ ?_ ?_ ?_ ?_ ?_
          · repeat first | exact wok_nil | refine wok_cons (by first | exact fun _ _ h k => h.same k) ?_
          · repeat first | exact vok_nil | refine vok_rig (by first | exact fun _ _ _ h => h) ?_ | refine vok_soft (by first | exact fun _ _ _ h _ => h) ?_
          · exact hF0
          · repeat first | exact all_end (by decide) | refine all_cons (by first | exact rfl | exact ⟨rfl, fun _ _ h => Or.inl h⟩ | exact ⟨rfl, fun _ _ h => Or.inr ⟨h, rfl⟩⟩) ?_
          · refine allp_mild 0 rfl rfl rfl (fun a x_ W hout hin hP => ?_) ?_
            · have e0 : a.tmps[0]? = some (.pointer (some ⟨g, 0, none⟩)) := (hout 0 (by kernel_rfl)).trans rfl
              exact does_move rfl e0 ⟨Same.refl _, rfl⟩
            refine allp_mild 0 rfl rfl rfl (fun a x_ W hout hin hP => ?_) ?_
            · have e0 : a.tmps[0]? = some (.pointer (some ⟨g, 0, none⟩)) := (hout 0 (by kernel_rfl)).trans rfl
              exact does_move rfl e0 ⟨Same.refl _, rfl⟩
            refine allp_mild 0 rfl rfl rfl (fun a x_ W hout hin hP => ?_) ?_
            · have e26 := hin.is 1 26 (by kernel_rfl) (by decide) (by kernel_rfl) (by kernel_rfl) _ rfl
              clear hP
              clear hin hout
              intro K Q hK
              go_simp
              exact hK _ _ ⟨Same.refl _, rfl⟩
            refine allp_mild 0 rfl rfl rfl (fun a x_ W hout hin hP => ?_) ?_
            · have e27 := hin.is 2 27 (by kernel_rfl) (by decide) (by kernel_rfl) (by kernel_rfl) _ rfl
              clear hP
              clear hin hout
              intro K Q hK
              go_simp
              exact hK _ _ ⟨Same.refl _, rfl⟩
            refine allp_mild 0 rfl rfl rfl (fun a x_ W hout hin hP => ?_) ?_
            · have e28 := hin.is 3 28 (by kernel_rfl) (by decide) (by kernel_rfl) (by kernel_rfl) _ rfl
              have hc : W.cell? ⟨g, 11, none⟩ = some (.bool false) := (hP.row 0 rfl).get rfl
              clear hP
              clear hin hout
              intro K Q hK
              go_simp
              exact hK _ _ ⟨Same.refl _, rfl⟩
            refine allp_mild 0 rfl rfl rfl (fun a x_ W hout hin hP => ?_) ?_
            · have e29 := hin.is 4 29 (by kernel_rfl) (by decide) (by kernel_rfl) (by kernel_rfl) _ rfl
              exact does_move rfl e29 ⟨Same.refl _, rfl⟩
            refine allp_mild 0 rfl rfl rfl (fun a x_ W hout hin hP => ?_) ?_
            · have e1 : a.tmps[1]? = some (.slice (some ⟨b, o, none⟩) z f) := (hout 1 (by kernel_rfl)).trans rfl
              exact does_move rfl e1 ⟨Same.refl _, rfl⟩
            refine allp_mild 0 rfl rfl rfl (fun a x_ W hout hin hP => ?_) ?_
            · have e4 : a.tmps[4]? = some (.int .i64 (j : Int)) := (hout 4 (by kernel_rfl)).trans rfl
              exact does_move rfl e4 ⟨Same.refl _, rfl⟩
            refine allp_mild 0 rfl rfl rfl (fun a x_ W hout hin hP => ?_) ?_
            · have e31 := hin.is 6 31 (by kernel_rfl) (by decide) (by kernel_rfl) (by kernel_rfl) _ rfl
              have e32 := hin.is 7 32 (by kernel_rfl) (by decide) (by kernel_rfl) (by kernel_rfl) _ rfl
              have hO := HO.out
              have k0 := HK0.out
              have k1 := HK1.out
              clear hP
              clear hin hout
              intro K Q hK
              go_simp
              exact hK _ _ ⟨Same.refl _, rfl⟩
            refine allp_mild 0 rfl rfl rfl (fun a x_ W hout hin hP => ?_) ?_
            · have e33 := hin.is 8 33 (by kernel_rfl) (by decide) (by kernel_rfl) (by kernel_rfl) _ rfl
              clear hP
              clear hin hout
              intro K Q hK
              go_simp
              exact hK _ _ ⟨Same.refl _, rfl⟩
            refine allp_mild 0 rfl rfl rfl (fun a x_ W hout hin hP => ?_) ?_
            · have e34 := hin.is 9 34 (by kernel_rfl) (by decide) (by kernel_rfl) (by kernel_rfl) _ rfl
              have hc : W.cell? ⟨b, O, none⟩ = some (.int .i64 Y) := (World.cell?_of_block (hP.chg.block b HBW.out HBG.out)).trans HCY.out
              clear hP
              clear hin hout
              intro K Q hK
              go_simp
              exact hK _ _ ⟨Same.refl _, rfl⟩
            refine allp_mild 0 rfl rfl rfl (fun a x_ W hout hin hP => ?_) ?_
            · have e0 : a.tmps[0]? = some (.pointer (some ⟨g, 0, none⟩)) := (hout 0 (by kernel_rfl)).trans rfl
              exact does_move rfl e0 ⟨Same.refl _, rfl⟩
            refine allp_mild 0 rfl rfl rfl (fun a x_ W hout hin hP => ?_) ?_
            · have e36 := hin.is 11 36 (by kernel_rfl) (by decide) (by kernel_rfl) (by kernel_rfl) _ rfl
              clear hP
              clear hin hout
              intro K Q hK
              go_simp
              exact hK _ _ ⟨Same.refl _, rfl⟩
            refine allp_mild 0 rfl rfl rfl (fun a x_ W hout hin hP => ?_) ?_
            · have e37 := hin.is 12 37 (by kernel_rfl) (by decide) (by kernel_rfl) (by kernel_rfl) _ rfl
              clear hP
              clear hin hout
              intro K Q hK
              go_simp
              exact hK _ _ ⟨Same.refl _, rfl⟩
            refine allp_mild 0 rfl rfl rfl (fun a x_ W hout hin hP => ?_) ?_
            · have e38 := hin.is 13 38 (by kernel_rfl) (by decide) (by kernel_rfl) (by kernel_rfl) _ rfl
              clear hP
              clear hin hout
              intro K Q hK
              go_simp
              exact hK _ _ ⟨Same.refl _, rfl⟩
            refine allp_mild 0 rfl rfl rfl (fun a x_ W hout hin hP => ?_) ?_
            · have e39 := hin.is 14 39 (by kernel_rfl) (by decide) (by kernel_rfl) (by kernel_rfl) _ rfl
              have hc : W.cell? ⟨g, 5, none⟩ = some (.slice (some ⟨bo, oo, none⟩) n c) := (hP.row 0 rfl).get rfl
              clear hP
              clear hin hout
              intro K Q hK
              go_simp
              exact hK _ _ ⟨Same.refl _, rfl⟩
            refine allp_mild 0 rfl rfl rfl (fun a x_ W hout hin hP => ?_) ?_
            · have e40 := hin.is 15 40 (by kernel_rfl) (by decide) (by kernel_rfl) (by kernel_rfl) _ rfl
              have hn := HN1.out
              clear hP
              clear hin hout
              intro K Q hK
              go_simp
              exact hK _ _ ⟨Same.refl _, rfl⟩
            refine allp_mild 0 rfl rfl rfl (fun a x_ W hout hin hP => ?_) ?_
            · have e41 := hin.is 16 41 (by kernel_rfl) (by decide) (by kernel_rfl) (by kernel_rfl) _ rfl
              clear hP
              clear hin hout
              intro K Q hK
              go_simp
              exact hK _ _ ⟨Same.refl _, rfl⟩
            refine allp_mild 0 rfl rfl rfl (fun a x_ W hout hin hP => ?_) ?_
            · have e42 := hin.is 17 42 (by kernel_rfl) (by decide) (by kernel_rfl) (by kernel_rfl) _ rfl
              have hc : W.cell? ⟨bo, oo, none⟩ = some (.int .i64 D) := (World.cell?_of_block (hP.chg.block bo HBO.out HOG.out)).trans HCD.out
              clear hP
              clear hin hout
              intro K Q hK
              go_simp
              exact hK _ _ ⟨Same.refl _, rfl⟩
            refine allp_mild 0 rfl rfl rfl (fun a x_ W hout hin hP => ?_) ?_
            · have e35 := hin.is 10 35 (by kernel_rfl) (by decide) (by kernel_rfl) (by kernel_rfl) _ rfl
              have e43 := hin.is 18 43 (by kernel_rfl) (by decide) (by kernel_rfl) (by kernel_rfl) _ rfl
              have hq := HQ.out
              clear hP
              clear hin hout
              intro K Q hK
              go_simp
              exact hK _ _ ⟨Same.refl _, rfl⟩
            refine allp_mild 0 rfl rfl rfl (fun a x_ W hout hin hP => ?_) ?_
            · have e30 := hin.is 5 30 (by kernel_rfl) (by decide) (by kernel_rfl) (by kernel_rfl) _ rfl
              have e44 := hin.is 19 44 (by kernel_rfl) (by decide) (by kernel_rfl) (by kernel_rfl) _ rfl
              exact does_pick rfl e30 ⟨Same.refl _, eval_of_get e44⟩
            refine allp_mild 0 rfl rfl rfl (fun a x_ W hout hin hP => ?_) ?_
            · have e25 := hin.is 0 25 (by kernel_rfl) (by decide) (by kernel_rfl) (by kernel_rfl) _ rfl
              clear hP
              clear hin hout
              intro K Q hK
              go_simp
              exact hK _ _ ⟨Same.refl _, rfl⟩
            refine allp_mild 0 rfl rfl rfl (fun a x_ W hout hin hP => ?_) ?_
            · have e46 := hin.is 21 46 (by kernel_rfl) (by decide) (by kernel_rfl) (by kernel_rfl) _ rfl
              clear hP
              clear hin hout
              intro K Q hK
              go_simp
              exact hK _ _ ⟨Same.refl _, rfl⟩
            refine allp_wild 0 rfl rfl rfl (fun a x_ W hout hin hP => ?_) ?_
            · have e47 := hin.is 22 47 (by kernel_rfl) (by decide) (by kernel_rfl) (by kernel_rfl) _ rfl
              have e45 := hin.is 20 45 (by kernel_rfl) (by decide) (by kernel_rfl) (by kernel_rfl) _ rfl
              clear hin hout
              intro K Q hK
              exact wp_st_put hP 0 11 4 (.tmp 47) (.tmp 45) rfl rfl (eval_of_get e47) (.bool true) (eval_of_get e45) (by kernel_rfl) rfl rfl (by show 11 < 12; decide) (rsnC true wz S.o S.p (.slice (some ⟨bo, oo, none⟩) n c) (.slice B m d) S.n true) (by exact rfl) (fun W9 HSx => hK _ _ ⟨HSx, trivial⟩)
            exact all_end (by decide)
          · intro x_ W hP hV
            have HW := Lib.hid hP
            clear hP hV
            simp only [putL, Act.put, List.setIfInBounds_toArray, List.set_cons_succ, List.set_cons_zero]
            simp only [Nat.zero_add, Nat.reduceAdd]
            refine wpAnyH_done (by kernel_rfl) ?_ _
            go_wp2_with fail
            refine ⟨⟨j + 1, by omega, by go_num, ?_⟩, by simp [intOf]; omega⟩
            rw [HTB.out]
            exact st_then HST.out HW.out (fun i hi => .inl hi) (fun k r hk => by match k, hk with | 0, hk => cases hk; exact .inl rfl)
        · have HTB : Hid (T (j + 1) = false) := Lib.hid (by rw [HTJ.out, decide_eq_false hYD]; rfl)
          have HQ : Hid ((Y == D) = false) := Lib.hid (beq_eq_false_iff_ne.2 hYD)
          clear htj hYD HTJ
          have hF0 : Wl [(fun W => St wr (fun k => k = g) [⟨g, 35, rsnC true wz S.o S.p (.slice (some ⟨bo, oo, none⟩) n c) (.slice B m d) S.n false⟩] W), (fun W => St wr (fun k => k = g) [⟨g, 35, rsnC true wz S.o S.p (.slice (some ⟨bo, oo, none⟩) n c) (.slice B m d) S.n false⟩] W)] 0 (World.drew _) := (st_only (HST.out.row 0 rfl)).same (Below.refl _ _).drew
          refine wp_region_phs [is (.pointer (some ⟨g, 0, none⟩)), is (.pointer (some ⟨g, 0, none⟩)), is (.pointer (some ⟨g, 0, none⟩)), is (.pointer (some ⟨g, 11, none⟩)), is (.bool false), is (.bool false), is (.slice (some ⟨b, o, none⟩) z f), is (.int .i64 (j : Int)), is (.pointer (some ⟨b, O, none⟩)), is (.pointer (some ⟨b, O, none⟩)), is (.int .i64 Y), is (.pointer (some ⟨g, 0, none⟩)), is (.pointer (some ⟨g, 0, none⟩)), is (.pointer (some ⟨g, 2, none⟩)), is (.pointer (some ⟨g, 5, none⟩)), is (.slice (some ⟨bo, oo, none⟩) n c), is (.pointer (some ⟨bo, oo, none⟩)), is (.pointer (some ⟨bo, oo, none⟩)), is (.int .i64 D), is (.bool false), is (.bool false), is (.pointer (some ⟨g, 0, none⟩)), is (.pointer (some ⟨g, 11, none⟩)), anyV] [true, true, true, true, true, true, true, true, true, true, true, true, true, true, true, true, true, true, true, true, true, true, true, true] [(fun W => St wr (fun k => k = g) [⟨g, 35, rsnC true wz S.o S.p (.slice (some ⟨bo, oo, none⟩) n c) (.slice B m d) S.n false⟩] W), (fun W => St wr (fun k => k = g) [⟨g, 35, rsnC true wz S.o S.p (.slice (some ⟨bo, oo, none⟩) n c) (.slice B m d) S.n false⟩] W)] [false, false, false, false, false, false, false, false, false, false, false, false, false, false, false, false, false, false, false, false, false, false, false, true] [some 0, some 0, some 0, some 0, some 0, some 0, some 0, some 0, some 0, some 0, some 0, some 0, some 0, some 0, some 0, some 0, some 0, some 0, some 0, some 0, some 0, some 0, some 0, some 0] [some 25, some 26, some 27, some 28, some 29, some 30, some 31, some 32, some 33, some 34, some 35, some 36, some 37, some 38, some 39, some 40, some 41, some 42, some 43, some 44, some 45, some 46, some 47, none] 24 1 (fun _ => true) rfl rfl (by kernel_rfl) (by kernel_rfl) (by kernel_rfl) (by kernel_rfl) ?_ ?_ ?_ ?_ ?_ ?_
          · repeat first | exact wok_nil | refine wok_cons (by first | exact fun _ _ h k => h.same k) ?_
          · repeat first | exact vok_nil | refine vok_rig (by first | exact fun _ _ _ h => h) ?_ | refine vok_soft (by first | exact fun _ _ _ h _ => h) ?_
          · exact hF0
          · repeat first | exact all_end (by decide) | refine all_cons (by first | exact rfl | exact ⟨rfl, fun _ _ h => Or.inl h⟩ | exact ⟨rfl, fun _ _ h => Or.inr ⟨h, rfl⟩⟩) ?_
          · refine allp_mild 0 rfl rfl rfl (fun a x_ W hout hin hP => ?_) ?_
            · have e0 : a.tmps[0]? = some (.pointer (some ⟨g, 0, none⟩)) := (hout 0 (by kernel_rfl)).trans rfl
              exact does_move rfl e0 ⟨Same.refl _, rfl⟩
            refine allp_mild 0 rfl rfl rfl (fun a x_ W hout hin hP => ?_) ?_
            · have e0 : a.tmps[0]? = some (.pointer (some ⟨g, 0, none⟩)) := (hout 0 (by kernel_rfl)).trans rfl
              exact does_move rfl e0 ⟨Same.refl _, rfl⟩
            refine allp_mild 0 rfl rfl rfl (fun a x_ W hout hin hP => ?_) ?_
            · have e26 := hin.is 1 26 (by kernel_rfl) (by decide) (by kernel_rfl) (by kernel_rfl) _ rfl
              clear hP
              clear hin hout
              intro K Q hK
              go_simp
              exact hK _ _ ⟨Same.refl _, rfl⟩
            refine allp_mild 0 rfl rfl rfl (fun a x_ W hout hin hP => ?_) ?_
            · have e27 := hin.is 2 27 (by kernel_rfl) (by decide) (by kernel_rfl) (by kernel_rfl) _ rfl
              clear hP
              clear hin hout
              intro K Q hK
              go_simp
              exact hK _ _ ⟨Same.refl _, rfl⟩
            refine allp_mild 0 rfl rfl rfl (fun a x_ W hout hin hP => ?_) ?_
            · have e28 := hin.is 3 28 (by kernel_rfl) (by decide) (by kernel_rfl) (by kernel_rfl) _ rfl
              have hc : W.cell? ⟨g, 11, none⟩ = some (.bool false) := (hP.row 0 rfl).get rfl
              clear hP
              clear hin hout
              intro K Q hK
              go_simp
              exact hK _ _ ⟨Same.refl _, rfl⟩
            refine allp_mild 0 rfl rfl rfl (fun a x_ W hout hin hP => ?_) ?_
            · have e29 := hin.is 4 29 (by kernel_rfl) (by decide) (by kernel_rfl) (by kernel_rfl) _ rfl
              exact does_move rfl e29 ⟨Same.refl _, rfl⟩
            refine allp_mild 0 rfl rfl rfl (fun a x_ W hout hin hP => ?_) ?_
            · have e1 : a.tmps[1]? = some (.slice (some ⟨b, o, none⟩) z f) := (hout 1 (by kernel_rfl)).trans rfl
              exact does_move rfl e1 ⟨Same.refl _, rfl⟩
            refine allp_mild 0 rfl rfl rfl (fun a x_ W hout hin hP => ?_) ?_
            · have e4 : a.tmps[4]? = some (.int .i64 (j : Int)) := (hout 4 (by kernel_rfl)).trans rfl
              exact does_move rfl e4 ⟨Same.refl _, rfl⟩
            refine allp_mild 0 rfl rfl rfl (fun a x_ W hout hin hP => ?_) ?_
            · have e31 := hin.is 6 31 (by kernel_rfl) (by decide) (by kernel_rfl) (by kernel_rfl) _ rfl
              have e32 := hin.is 7 32 (by kernel_rfl) (by decide) (by kernel_rfl) (by kernel_rfl) _ rfl
              have hO := HO.out
              have k0 := HK0.out
              have k1 := HK1.out
              clear hP
              clear hin hout
              intro K Q hK
              go_simp
              exact hK _ _ ⟨Same.refl _, rfl⟩
            refine allp_mild 0 rfl rfl rfl (fun a x_ W hout hin hP => ?_) ?_
            · have e33 := hin.is 8 33 (by kernel_rfl) (by decide) (by kernel_rfl) (by kernel_rfl) _ rfl
              clear hP
              clear hin hout
              intro K Q hK
              go_simp
              exact hK _ _ ⟨Same.refl _, rfl⟩
            refine allp_mild 0 rfl rfl rfl (fun a x_ W hout hin hP => ?_) ?_
            · have e34 := hin.is 9 34 (by kernel_rfl) (by decide) (by kernel_rfl) (by kernel_rfl) _ rfl
              have hc : W.cell? ⟨b, O, none⟩ = some (.int .i64 Y) := (World.cell?_of_block (hP.chg.block b HBW.out HBG.out)).trans HCY.out
              clear hP
              clear hin hout
              intro K Q hK
              go_simp
              exact hK _ _ ⟨Same.refl _, rfl⟩
            refine allp_mild 0 rfl rfl rfl (fun a x_ W hout hin hP => ?_) ?_
            · have e0 : a.tmps[0]? = some (.pointer (some ⟨g, 0, none⟩)) := (hout 0 (by kernel_rfl)).trans rfl
              exact does_move rfl e0 ⟨Same.refl _, rfl⟩
            refine allp_mild 0 rfl rfl rfl (fun a x_ W hout hin hP => ?_) ?_
            · have e36 := hin.is 11 36 (by kernel_rfl) (by decide) (by kernel_rfl) (by kernel_rfl) _ rfl
              clear hP
              clear hin hout
              intro K Q hK
              go_simp
              exact hK _ _ ⟨Same.refl _, rfl⟩
            refine allp_mild 0 rfl rfl rfl (fun a x_ W hout hin hP => ?_) ?_
            · have e37 := hin.is 12 37 (by kernel_rfl) (by decide) (by kernel_rfl) (by kernel_rfl) _ rfl
              clear hP
              clear hin hout
              intro K Q hK
              go_simp
              exact hK _ _ ⟨Same.refl _, rfl⟩
            refine allp_mild 0 rfl rfl rfl (fun a x_ W hout hin hP => ?_) ?_
            · have e38 := hin.is 13 38 (by kernel_rfl) (by decide) (by kernel_rfl) (by kernel_rfl) _ rfl
              clear hP
              clear hin hout
              intro K Q hK
              go_simp
              exact hK _ _ ⟨Same.refl _, rfl⟩
            refine allp_mild 0 rfl rfl rfl (fun a x_ W hout hin hP => ?_) ?_
            · have e39 := hin.is 14 39 (by kernel_rfl) (by decide) (by kernel_rfl) (by kernel_rfl) _ rfl
              have hc : W.cell? ⟨g, 5, none⟩ = some (.slice (some ⟨bo, oo, none⟩) n c) := (hP.row 0 rfl).get rfl
              clear hP
              clear hin hout
              intro K Q hK
              go_simp
              exact hK _ _ ⟨Same.refl _, rfl⟩
            refine allp_mild 0 rfl rfl rfl (fun a x_ W hout hin hP => ?_) ?_
            · have e40 := hin.is 15 40 (by kernel_rfl) (by decide) (by kernel_rfl) (by kernel_rfl) _ rfl
              have hn := HN1.out
              clear hP
              clear hin hout
              intro K Q hK
              go_simp
              exact hK _ _ ⟨Same.refl _, rfl⟩
            refine allp_mild 0 rfl rfl rfl (fun a x_ W hout hin hP => ?_) ?_
            · have e41 := hin.is 16 41 (by kernel_rfl) (by decide) (by kernel_rfl) (by kernel_rfl) _ rfl
              clear hP
              clear hin hout
              intro K Q hK
              go_simp
              exact hK _ _ ⟨Same.refl _, rfl⟩
            refine allp_mild 0 rfl rfl rfl (fun a x_ W hout hin hP => ?_) ?_
            · have e42 := hin.is 17 42 (by kernel_rfl) (by decide) (by kernel_rfl) (by kernel_rfl) _ rfl
              have hc : W.cell? ⟨bo, oo, none⟩ = some (.int .i64 D) := (World.cell?_of_block (hP.chg.block bo HBO.out HOG.out)).trans HCD.out
              clear hP
              clear hin hout
              intro K Q hK
              go_simp
              exact hK _ _ ⟨Same.refl _, rfl⟩
            refine allp_mild 0 rfl rfl rfl (fun a x_ W hout hin hP => ?_) ?_
            · have e35 := hin.is 10 35 (by kernel_rfl) (by decide) (by kernel_rfl) (by kernel_rfl) _ rfl
              have e43 := hin.is 18 43 (by kernel_rfl) (by decide) (by kernel_rfl) (by kernel_rfl) _ rfl
              have hq := HQ.out
              clear hP
              clear hin hout
              intro K Q hK
              go_simp
              exact hK _ _ ⟨Same.refl _, rfl⟩
            refine allp_mild 0 rfl rfl rfl (fun a x_ W hout hin hP => ?_) ?_
            · have e30 := hin.is 5 30 (by kernel_rfl) (by decide) (by kernel_rfl) (by kernel_rfl) _ rfl
              have e44 := hin.is 19 44 (by kernel_rfl) (by decide) (by kernel_rfl) (by kernel_rfl) _ rfl
              exact does_pick rfl e30 ⟨Same.refl _, eval_of_get e44⟩
            refine allp_mild 0 rfl rfl rfl (fun a x_ W hout hin hP => ?_) ?_
            · have e25 := hin.is 0 25 (by kernel_rfl) (by decide) (by kernel_rfl) (by kernel_rfl) _ rfl
              clear hP
              clear hin hout
              intro K Q hK
              go_simp
              exact hK _ _ ⟨Same.refl _, rfl⟩
            refine allp_mild 0 rfl rfl rfl (fun a x_ W hout hin hP => ?_) ?_
            · have e46 := hin.is 21 46 (by kernel_rfl) (by decide) (by kernel_rfl) (by kernel_rfl) _ rfl
              clear hP
              clear hin hout
              intro K Q hK
              go_simp
              exact hK _ _ ⟨Same.refl _, rfl⟩
            refine allp_wild 0 rfl rfl rfl (fun a x_ W hout hin hP => ?_) ?_
            · have e47 := hin.is 22 47 (by kernel_rfl) (by decide) (by kernel_rfl) (by kernel_rfl) _ rfl
              have e45 := hin.is 20 45 (by kernel_rfl) (by decide) (by kernel_rfl) (by kernel_rfl) _ rfl
              clear hin hout
              intro K Q hK
              exact wp_st_put hP 0 11 4 (.tmp 47) (.tmp 45) rfl rfl (eval_of_get e47) (.bool false) (eval_of_get e45) (by kernel_rfl) rfl rfl (by show 11 < 12; decide) (rsnC true wz S.o S.p (.slice (some ⟨bo, oo, none⟩) n c) (.slice B m d) S.n false) (by exact rfl) (fun W9 HSx => hK _ _ ⟨HSx, trivial⟩)
            exact all_end (by decide)
          · intro x_ W hP hV
            have HW := Lib.hid hP
            clear hP hV
            simp only [putL, Act.put, List.setIfInBounds_toArray, List.set_cons_succ, List.set_cons_zero]
            simp only [Nat.zero_add, Nat.reduceAdd]
            refine wpAnyH_done (by kernel_rfl) ?_ _
            go_wp2_with fail
            refine ⟨⟨j + 1, by omega, by go_num, ?_⟩, by simp [intOf]; omega⟩
            rw [HTB.out]
            exact st_then HST.out HW.out (fun i hi => .inl hi) (fun k r hk => by match k, hk with | 0, hk => cases hk; exact .inl rfl)
    · obtain rfl : j = z := by omega
      have hz1 : ¬ ((j : Int) < (j : Int)) := by omega
      clear c0 c2
      go_wp2_with fail
      go_end0
      exact ⟨rfl, ⟨some ⟨bo, oo, none⟩, n, c, B, m, d, true, wz, HST.out.row 0 rfl, puts_keep HPO.out HST.out.chg (fun y hy _ => by subst hy; exact ⟨_, _, HR.out, nou8_rsn _ _ _ _ _ _ _ _ _ _ _ _⟩), puts_keep HPP.out HST.out.chg (fun y hy _ => by subst hy; exact ⟨_, _, HR.out, nou8_rsn _ _ _ _ _ _ _ _ _ _ _ _⟩), (decide_eq_true (by rw [HK2.out]; decide)).symm, HWZ.out⟩, HST.out.chg⟩
end Go.Proofs.Ytppbgkdkioldbaa

/- Like packets; the law's own; both senders at once. -/
set_option maxRecDepth 4000
namespace Go.Proofs.Ytppbgkdkioldbaa
open Go Go.RowKit
set_option maxHeartbeats 1600000 in
theorem packets_same (k : Int) (e s : BitVec 32) (l : List Pt) (A B : Option Addr) (n c m d : Nat) (w : World) (ha : PutsAt w (.slice A n c) l) (hb : PutsAt w (.slice B m d) l) (hl : l.length ≤ 1000000) :
    Calls Try.prog 23 #[.agg (pktA k e s (.slice A n c)), .agg (pktA k e s (.slice B m d))] w fun x w' => x = .returned (.bool true) ∧ Below w.heap.size w w' := by
  have HA := Lib.hid ha
  have HB := Lib.hid hb
  clear ha hb
  have HS := St.nil w noF
  go_enter Try.func23, Try.ntmps23
  go_upto_region 1 with (first | ((with_reducible refine wpList_plain ?_ ?_); exact rfl; intro KK hKK; refine wp_st_box HS 30 (.tmp 0) rfl _ rfl (pktA k e s (.slice A n c)) (rfl) (fun g2 W1 HSx => hKK _ _ ?_); clear hKK KK HS; have HS : St w noF [⟨g2, 30, pktA k e s (.slice A n c)⟩] W1 := HSx; clear HSx) | ((with_reducible refine wpList_plain ?_ ?_); exact rfl; intro KK hKK; refine wp_st_box HS 30 (.tmp 1) rfl _ rfl (pktA k e s (.slice B m d)) (rfl) (fun g3 W2 HSx => hKK _ _ ?_); clear hKK KK HS; have HS : St w noF [⟨g2, 30, pktA k e s (.slice A n c)⟩, ⟨g3, 30, pktA k e s (.slice B m d)⟩] W2 := HSx; clear HSx))
  have a0 : W2.cell? ⟨g2, 0, none⟩ = some (.int .i64 k) := (HS.row 0 rfl).get rfl
  have a1 : W2.cell? ⟨g2, 1, none⟩ = some (.int .u32 (wd e)) := (HS.row 0 rfl).get rfl
  have a2 : W2.cell? ⟨g2, 2, none⟩ = some (.int .u32 (wd s)) := (HS.row 0 rfl).get rfl
  have a3 : W2.cell? ⟨g2, 3, none⟩ = some (.slice A n c) := (HS.row 0 rfl).get rfl
  have b0 : W2.cell? ⟨g3, 0, none⟩ = some (.int .i64 k) := (HS.row 1 rfl).get rfl
  have b1 : W2.cell? ⟨g3, 1, none⟩ = some (.int .u32 (wd e)) := (HS.row 1 rfl).get rfl
  have b2 : W2.cell? ⟨g3, 2, none⟩ = some (.int .u32 (wd s)) := (HS.row 1 rfl).get rfl
  have b3 : W2.cell? ⟨g3, 3, none⟩ = some (.slice B m d) := (HS.row 1 rfl).get rfl
  have HW := Lib.hid HS.below
  have C := keepputs_any l l _ _ W2 (HA.out.below HS.below (Nat.le_refl _)) (HB.out.below HS.below (Nat.le_refl _)) hl
  rw [decide_eq_true rfl] at C
  clear HS
  go_wp2_with fail
  refine C.mono ?_
  rintro x w9 ⟨rfl, hb9⟩
  go_wp2_with fail
  go_ret
  exact ⟨rfl, HW.out.trans (hb9.mono HW.out.size)⟩
set_option maxHeartbeats 1600000 in
theorem own24_any (k : Int) (e s : BitVec 32) (A : Option Addr) (n c : Nat) (l : List Pt) (w : World) (h : PutsAt w (.slice A n c) l) (hn : l.length ≤ 1000000) :
    Calls Try.prog 11 #[.agg (pktA k e s (.slice A n c))] w fun x w' => ∃ B m d, x = .returned (.agg (pktA k e s (.slice B m d))) ∧ PutsAt w' (.slice B m d) l ∧ Below w.heap.size w w' := by
  obtain rfl := puts_len h
  have HV := Lib.hid h
  have HLN := Lib.hid hn
  clear h hn
  have HS := St.nil w noF
  go_enter Try.func11, Try.ntmps11
  go_upto_region 1 with (first | ((with_reducible refine wpList_plain ?_ ?_); exact rfl; intro KK hKK; refine wp_st_box HS 30 (.tmp 0) rfl _ rfl (pktA k e s (.slice A l.length c)) (rfl) (fun g1 W1 HSx => hKK _ _ ?_); clear hKK KK HS; have HS : St w noF [⟨g1, 30, pktA k e s (.slice A l.length c)⟩] W1 := HSx; clear HSx) | ((with_reducible refine wpList_plain ?_ ?_); exact rfl; intro KK hKK; refine wp_st_alloc HS 30 (pktA 0 0#32 0#32 (.slice none 0 0)) rfl (.agg (pktA 0 0#32 0#32 (.slice none 0 0))) (by kernel_rfl) (rfl) (fun g2 W2 HSx => hKK _ _ ?_); clear hKK KK HS; have HS : St w noF [⟨g1, 30, pktA k e s (.slice A l.length c)⟩, ⟨g2, 30, pktA 0 0#32 0#32 (.slice none 0 0)⟩] W2 := HSx; clear HSx))
  have c3 : (W2.alloc (.cells #[] 61)).cell? ⟨g1, 3, none⟩ = some (.slice A l.length c) := ((HS.row 0 rfl).alloc _).get rfl
  have HE : Hid (Row (W2.alloc (.cells #[] 61)) W2.heap.size 61 #[]) := Lib.hid (Row.fresh W2 61 #[])
  have HBA := Lib.hid ((Below.refl W2.heap.size W2).alloc (Nat.le_refl _) (.cells #[] 61))
  have HI := Lib.hid (HV.out.below (HS.below.trans (HBA.out.mono HS.below.size)) (Nat.le_refl _))
  have HSX := Lib.hid HS
  clear HS
  go_wp2_with (first | ((with_reducible refine wpList_plain ?_ ?_); exact rfl; intro KK hKK; refine wp_append_puts_own (.tmp 3) (.tmp 5) rfl W2.heap.size rfl HE.out A c l rfl HI.out HLN.out (fun kv W5 hp hb5 hf _ => hKK _ _ ?_); clear hKK KK; obtain ⟨B9, m9, d9, rfl⟩ := hf; have HP := Lib.hid hp; have HSy := HSX.out.same (HBA.out.trans (hb5.mono HBA.out.size)); have HF : Hid (∀ y, (y = g1 ∨ y = g2) → w.heap.size ≤ y ∧ ∃ t cs, Row W5 y t cs ∧ NoU8 cs) := Lib.hid (fun y hy => by rcases hy with rfl | rfl; exact ⟨(HSy.own 0 _ rfl).resolve_left (fun h => h), 30, pktA k e s (.slice A l.length c), HSy.row 0 rfl, nou8_pkt _ _ _ _ _ _⟩; exact ⟨(HSy.own 1 _ rfl).resolve_left (fun h => h), 30, pktA 0 0#32 0#32 (.slice none 0 0), HSy.row 1 rfl, nou8_pkt _ _ _ _ _ _⟩); have HW5 := Lib.hid HSy.below; have HS := st_again (G := fun k => k = g1 ∨ k = g2) HSy (fun k r hk => by match k, hk with | 0, hk => cases hk; exact .inl rfl | 1, hk => cases hk; exact .inr rfl); clear hp hb5 HSy) | ((with_reducible refine wpList_plain ?_ ?_); exact rfl; intro KK hKK; refine wp_st_put HS 0 3 28 (.tmp 7) (.tmp 6) rfl rfl rfl (.slice B9 m9 d9) rfl (by kernel_rfl) rfl rfl (by show 3 < 4; decide) (pktA k e s (.slice B9 m9 d9)) (by exact rfl) (fun W6 HSx => hKK _ _ ?_); clear hKK KK HS; have HS : St W5 (fun k => k = g1 ∨ k = g2) [⟨g1, 30, pktA k e s (.slice B9 m9 d9)⟩, ⟨g2, 30, pktA 0 0#32 0#32 (.slice none 0 0)⟩] W6 := HSx; clear HSx) | ((with_reducible refine wpList_plain ?_ ?_); exact rfl; intro KK hKK; refine wp_st_load HS 0 0 30 (.tmp 1) rfl rfl rfl (pktA k e s (.slice B9 m9 d9)) (slab_whole _) _ Try.underlying30 rfl (by exact size_pkt) (hKK _ _ ?_); clear hKK KK) | ((with_reducible refine wpList_plain ?_ ?_); exact rfl; intro KK hKK; refine wp_st_store HS 1 0 30 (.tmp 2) (.tmp 8) rfl rfl rfl (.agg (pktA k e s (.slice B9 m9 d9))) rfl (by exact size_pkt) (Nat.le_refl 4) (pkt_one ..) (pktA k e s (.slice B9 m9 d9)) (by exact spl_agg _ _ _ rfl rfl) (fun W7 HSx => hKK _ _ ?_); clear hKK KK HS; have HS : St W5 (fun k => k = g1 ∨ k = g2) [⟨g1, 30, pktA k e s (.slice B9 m9 d9)⟩, ⟨g2, 30, pktA k e s (.slice B9 m9 d9)⟩] W7 := HSx; clear HSx))
  refine bodyPost_ret (results_cell_row Try.results11 _ _ g2 30 (pktA k e s (.slice B9 m9 d9)) (0, 0) _ rfl (HS.row 1 rfl) Try.underlying30 rfl (by exact size_pkt)) rfl ?_
  exact ⟨_, _, _, rfl, puts_keep HP.out HS.chg (fun y hy _ => (HF.out y hy).2), HW5.out.trans (HS.chg.below (fun y hy => (HF.out y hy).1) HW5.out.size)⟩
/- both -/
structure Duo24 (w : World) (g k gx : Nat) (cs : Array Value) (S R : Snd) (W : World) : Prop where
  snd : SndAt W g S
  rsn : RsnAt W k R
  row : Row W gx 37 cs
  low : Below w.heap.size w W
  ne : g ≠ k
  gg : w.heap.size ≤ g
  kk : w.heap.size ≤ k
  xg : gx ≠ g
  xk : gx ≠ k
theorem Duo24.call {w W W' : World} {g k gx : Nat} {cs : Array Value} {S R : Snd} (h : Duo24 w g k gx cs S R W) (hb : Below W.heap.size W W') : Duo24 w g k gx cs S R W' :=
  ⟨h.snd.call hb, h.rsn.call hb, h.row.call hb, h.low.trans (hb.mono h.low.size), h.ne, h.gg, h.kk, h.xg, h.xk⟩
theorem Duo24.left {w W W' : World} {g k gx : Nat} {cs : Array Value} {S S' R : Snd} (h : Duo24 w g k gx cs S R W) (hs : SndAt W' g S') (hc : Chg (fun k => k = g) W W') : Duo24 w g k gx cs S' R W' := by
  obtain ⟨A, n, c, B, m, d, hr, _⟩ := h.snd
  obtain ⟨A2, n2, c2, B2, m2, d2, iz, wz, hr2, hpo, hpp, hz⟩ := h.rsn
  have KF : ∀ y, y = g → y < W.heap.size → ∃ t cs, Row W y t cs ∧ NoU8 cs := fun y hy _ => by subst hy; exact ⟨_, _, hr, nou8_snd _ _ _ _ _ _ _ _ _ _⟩
  exact ⟨hs, ⟨A2, n2, c2, B2, m2, d2, iz, wz, hr2.chg hc (fun e => h.ne e.symm), puts_keep hpo hc KF, puts_keep hpp hc KF, hz⟩, h.row.chg hc h.xg, h.low.trans (hc.below (fun i hi => by rw [hi]; exact h.gg) h.low.size), h.ne, h.gg, h.kk, h.xg, h.xk⟩
theorem Duo24.right {w W W' : World} {g k gx : Nat} {cs : Array Value} {S R R' : Snd} (h : Duo24 w g k gx cs S R W) (hs : RsnAt W' k R') (hc : Chg (fun i => i = k) W W') : Duo24 w g k gx cs S R' W' := by
  obtain ⟨A, n, c, B, m, d, hr, hpo, hpp⟩ := h.snd
  obtain ⟨A2, n2, c2, B2, m2, d2, iz, wz, hr2, _⟩ := h.rsn
  have KF : ∀ y, y = k → y < W.heap.size → ∃ t cs, Row W y t cs ∧ NoU8 cs := fun y hy _ => by subst hy; exact ⟨_, _, hr2, nou8_rsn _ _ _ _ _ _ _ _ _ _ _ _⟩
  exact ⟨⟨A, n, c, B, m, d, hr.chg hc h.ne, puts_keep hpo hc KF, puts_keep hpp hc KF⟩, hs, h.row.chg hc h.xk, h.low.trans (hc.below (fun i hi => by rw [hi]; exact h.kk) h.low.size), h.ne, h.gg, h.kk, h.xg, h.xk⟩
end Go.Proofs.Ytppbgkdkioldbaa
