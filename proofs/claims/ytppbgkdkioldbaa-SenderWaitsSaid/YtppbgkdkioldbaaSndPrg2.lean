/- The program's sender: replace, Stop, Missed, Send. -/
import Derived.Test.YtppbgkdkioldbaaSndPrg
set_option maxRecDepth 4000
namespace Go.Proofs.Ytppbgkdkioldbaa
open Go Go.RowKit
def sndC (o p : Pkt) (u v : Value) (n : Int) (t : Bool) : Array Value := #[.int .i64 o.k, .int .u32 (wd o.e), .int .u32 (wd o.s), u, .int .i64 p.k, .int .u32 (wd p.e), .int .u32 (wd p.s), v, .int .i64 n, .bool t]
theorem size_snd : (Try.prog.info? 32).map (·.size) = some 10 := by kernel_rfl
theorem nou8_snd (o p : Pkt) (A B : Option Addr) (n c m d : Nat) (z : Int) (t : Bool) : NoU8 (sndC o p (.slice A n c) (.slice B m d) z t) := nou8_list (by simp)
def SndAt (W : World) (g : Nat) (S : Snd) : Prop := ∃ A n c B m d, Row W g 32 (sndC S.o S.p (.slice A n c) (.slice B m d) S.n S.t) ∧ PutsAt W (.slice A n c) S.o.l ∧ PutsAt W (.slice B m d) S.p.l
theorem SndAt.call {W W' : World} {g : Nat} {S : Snd} (h : SndAt W g S) (hb : Below W.heap.size W W') : SndAt W' g S := by
  obtain ⟨A, n, c, B, m, d, h1, h2, h3⟩ := h
  exact ⟨A, n, c, B, m, d, h1.call hb, h2.below hb (Nat.le_refl _), h3.below hb (Nat.le_refl _)⟩
theorem SndAt.lt {W : World} {g : Nat} {S : Snd} (h : SndAt W g S) : g < W.heap.size := by
  obtain ⟨A, n, c, B, m, d, h1, _⟩ := h
  exact h1.lt
theorem st_only {w : World} {g : Nat} {t : TypeId} {cs : Array Value} (h : Row w g t cs) : St w (fun k => k = g) [⟨g, t, cs⟩] w :=
  ⟨Chg.refl _ _, (fun j r hj => by cases j with | zero => (cases hj; exact h) | succ j => cases hj), (fun j k r q hjk hj hk => by cases j with | zero => (cases k with | zero => exact absurd rfl hjk | succ k => cases hk) | succ j => cases hj), (fun j r hj => by cases j with | zero => (cases hj; exact .inl rfl) | succ j => cases hj)⟩
theorem puts_nil (w : World) : PutsAt w (.slice none 0 0) [] := ⟨none, 0, rfl, Nat.le_refl _, fun x hx => by simp at hx, fun h => absurd rfl h⟩
set_option maxHeartbeats 1600000 in
theorem replace_any (g : Nat) (S : Snd) (p : Pkt) (D : Option Addr) (q f : Nat) (w : World) (h : SndAt w g S) (hp : PutsAt w (.slice D q f) p.l) :
    Calls Try.prog 29 #[.pointer (some ⟨g, 0, none⟩), .agg (pktA p.k p.e p.s (.slice D q f))] w fun x w' => x = .returned (.tuple #[]) ∧ SndAt w' g ⟨p, S.p, 0, false⟩ ∧ Chg (fun k => k = g) w w' := by
  obtain ⟨A, n, c, B, m, d, hr, hpo, hpp⟩ := h
  have HR := Lib.hid hr
  have HPO := Lib.hid hpo
  have HPP := Lib.hid hpp
  clear hr hpo hpp
  have HPN := Lib.hid hp
  clear hp
  have HS := st_only HR.out
  go_enter Try.func29, Try.ntmps29
  go_upto_region 1 with (first | ((with_reducible refine wpList_plain ?_ ?_); exact rfl; intro KK hKK; refine wp_st_box HS 30 (.tmp 1) rfl _ rfl (pktA p.k p.e p.s (.slice D q f)) (rfl) (fun g1 W1 HSx => hKK _ _ ?_); clear hKK KK HS; have HS : St w (fun k => k = g) [⟨g, 32, sndC S.o S.p (.slice A n c) (.slice B m d) S.n S.t⟩, ⟨g1, 30, pktA p.k p.e p.s (.slice D q f)⟩] W1 := HSx; clear HSx))
  go_wp2_with (first | ((with_reducible refine wpList_plain ?_ ?_); exact rfl; intro KK hKK; refine wp_st_load HS 1 0 30 (.tmp 3) rfl rfl rfl (pktA p.k p.e p.s (.slice D q f)) (slab_whole _) _ Try.underlying30 rfl (by exact size_pkt) (hKK _ _ ?_); clear hKK KK) | ((with_reducible refine wpList_plain ?_ ?_); exact rfl; intro KK hKK; refine wp_st_store HS 0 0 30 (.tmp 9) (.tmp 7) rfl rfl rfl (.agg (pktA p.k p.e p.s (.slice D q f))) rfl (by exact size_pkt) (by show 0 + 4 ≤ 10; decide) (pkt_one ..) (sndC p S.p (.slice D q f) (.slice B m d) S.n S.t) (by exact rfl) (fun W2 HSx => hKK _ _ ?_); clear hKK KK HS; have HS : St w (fun k => k = g) [⟨g, 32, sndC p S.p (.slice D q f) (.slice B m d) S.n S.t⟩, ⟨g1, 30, pktA p.k p.e p.s (.slice D q f)⟩] W2 := HSx; clear HSx) | ((with_reducible refine wpList_plain ?_ ?_); exact rfl; intro KK hKK; refine wp_st_put HS 0 8 3 (.tmp 11) (.const (.int .i64 0)) rfl rfl rfl (.int .i64 0) rfl (by kernel_rfl) rfl rfl (by show 8 < 10; decide) (sndC p S.p (.slice D q f) (.slice B m d) 0 S.t) (by exact rfl) (fun W3 HSx => hKK _ _ ?_); clear hKK KK HS; have HS : St w (fun k => k = g) [⟨g, 32, sndC p S.p (.slice D q f) (.slice B m d) 0 S.t⟩, ⟨g1, 30, pktA p.k p.e p.s (.slice D q f)⟩] W3 := HSx; clear HSx) | ((with_reducible refine wpList_plain ?_ ?_); exact rfl; intro KK hKK; refine wp_st_put HS 0 9 4 (.tmp 13) (.const (.bool false)) rfl rfl rfl (.bool false) rfl (by kernel_rfl) rfl rfl (by show 9 < 10; decide) (sndC p S.p (.slice D q f) (.slice B m d) 0 false) (by exact rfl) (fun W4 HSx => hKK _ _ ?_); clear hKK KK HS; have HS : St w (fun k => k = g) [⟨g, 32, sndC p S.p (.slice D q f) (.slice B m d) 0 false⟩, ⟨g1, 30, pktA p.k p.e p.s (.slice D q f)⟩] W4 := HSx; clear HSx))
  go_end0
  exact ⟨rfl, ⟨D, q, f, B, m, d, HS.row 0 rfl, puts_keep HPN.out HS.chg (fun y hy _ => by subst hy; exact ⟨_, _, HR.out, nou8_snd _ _ _ _ _ _ _ _ _ _⟩), puts_keep HPP.out HS.chg (fun y hy _ => by subst hy; exact ⟨_, _, HR.out, nou8_snd _ _ _ _ _ _ _ _ _ _⟩)⟩, HS.chg⟩
theorem stop_nil (b : Bool) (w : World) : Calls Try.prog 19 #[.pointer none, .bool b] w fun x w' => x = .returned (.tuple #[]) ∧ Below w.heap.size w w' := by
  go_enter Try.func19, Try.ntmps19
  go_wp2_with fail
  exact bodyPost_ret (results_none Try.results19 _ _ _) rfl ⟨rfl, Below.refl _ _⟩
set_option maxHeartbeats 1600000 in
theorem stop_any (g : Nat) (S : Snd) (b : Bool) (w : World) (h : SndAt w g S) :
    Calls Try.prog 19 #[.pointer (some ⟨g, 0, none⟩), .bool b] w fun x w' => x = .returned (.tuple #[]) ∧ SndAt w' g (stopS S b) ∧ Chg (fun k => k = g) w w' := by
  obtain ⟨A, n, c, B, m, d, hr, hpo, hpp⟩ := h
  have HR := Lib.hid hr
  have HPO := Lib.hid hpo
  have HPP := Lib.hid hpp
  clear hr hpo hpp
  have HS := st_only HR.out
  cases b with
  | false =>
    go_enter Try.func19, Try.ntmps19
    go_upto_region 5 with (first | ((with_reducible refine wpList_plain ?_ ?_); exact rfl; intro KK hKK; refine wp_st_store HS 0 4 30 (.tmp 13) (.tmp 11) rfl rfl rfl (.agg #[.int .i64 0, .int .u32 0, .int .u32 0, .slice none 0 0]) rfl (by exact size_pkt) (by show 4 + 4 ≤ 10; decide) (by simp [Value.cells, Value.oneCell']) (sndC S.o pkt0 (.slice A n c) (.slice none 0 0) S.n S.t) (by exact rfl) (fun W1 HSx => hKK _ _ ?_); clear hKK KK HS; have HS : St w (fun k => k = g) [⟨g, 32, sndC S.o pkt0 (.slice A n c) (.slice none 0 0) S.n S.t⟩] W1 := HSx; clear HSx))
    have HAT : Hid (SndAt W1 g ⟨S.o, pkt0, S.n, S.t⟩) := Lib.hid ⟨A, n, c, none, 0, 0, HS.row 0 rfl, puts_keep HPO.out HS.chg (fun y hy _ => by subst hy; exact ⟨_, _, HR.out, nou8_snd _ _ _ _ _ _ _ _ _ _⟩), puts_nil _⟩
    have HC := Lib.hid HS.chg
    clear HS
    have C := replace_any g ⟨S.o, pkt0, S.n, S.t⟩ pkt0 none 0 0 W1 HAT.out (puts_nil W1)
    go_wp2_with fail
    refine C.mono ?_
    rintro x w9 ⟨rfl, hs9, hc9⟩
    go_wp2_with fail
    go_end0
    exact ⟨rfl, hs9, HC.out.trans hc9 (fun i hi => .inl hi)⟩
  | true =>
    have CI := fun W => is_any S.o.k S.o.e S.o.s (.slice A n c) W
    by_cases h0 : S.o.k = 0
    · have hS : stopS S true = ⟨pkt0, S.p, 0, false⟩ := by unfold stopS; rw [if_pos rfl, if_pos h0]
      rw [hS]
      rw [decide_eq_false (by simp [h0])] at CI
      clear hS h0
      go_enter Try.func19, Try.ntmps19
      go_upto_region 3 with fail
      go_wp2_with (first | ((with_reducible refine wpList_plain ?_ ?_); exact rfl; intro KK hKK; refine wp_st_load HS 0 0 30 (.tmp 17) rfl rfl rfl (pktA S.o.k S.o.e S.o.s (.slice A n c)) (by exact rfl) _ Try.underlying30 rfl (by exact size_pkt) (hKK _ _ ?_); clear hKK KK))
      refine (CI _).mono ?_
      rintro x w3 ⟨rfl, hb⟩
      have HAT : Hid (SndAt w3 g S) := Lib.hid (SndAt.call ⟨A, n, c, B, m, d, HR.out, HPO.out, HPP.out⟩ hb)
      have HC : Hid (Chg (fun k => k = g) w w3) := Lib.hid (Chg.of_below hb)
      clear HS CI hb
      have C := replace_any g S pkt0 none 0 0 w3 HAT.out (puts_nil w3)
      go_wp2_with fail
      refine C.mono ?_
      rintro x w9 ⟨rfl, hs9, hc9⟩
      go_wp2_with fail
      go_end0
      exact ⟨rfl, hs9, HC.out.trans hc9 (fun i hi => .inl hi)⟩
    · have hS : stopS S true = ⟨pkt0, S.o, 0, false⟩ := by unfold stopS; rw [if_pos rfl, if_neg h0]
      rw [hS]
      rw [decide_eq_true h0] at CI
      clear hS h0
      go_enter Try.func19, Try.ntmps19
      go_upto_region 3 with fail
      go_wp2_with (first | ((with_reducible refine wpList_plain ?_ ?_); exact rfl; intro KK hKK; refine wp_st_load HS 0 0 30 (.tmp 17) rfl rfl rfl (pktA S.o.k S.o.e S.o.s (.slice A n c)) (by exact rfl) _ Try.underlying30 rfl (by exact size_pkt) (hKK _ _ ?_); clear hKK KK))
      refine (CI _).mono ?_
      rintro x w3 ⟨rfl, hb⟩
      have HR3 := Lib.hid (HR.out.call hb)
      have HPO3 := Lib.hid (HPO.out.below hb (Nat.le_refl _))
      have HC : Hid (Chg (fun k => k = g) w w3) := Lib.hid (Chg.of_below hb)
      clear HS CI hb
      have HS := st_only HR3.out
      go_upto_region 5 with (first | ((with_reducible refine wpList_plain ?_ ?_); exact rfl; intro KK hKK; refine wp_st_load HS 0 0 30 (.tmp 23) rfl rfl rfl (pktA S.o.k S.o.e S.o.s (.slice A n c)) (by exact rfl) _ Try.underlying30 rfl (by exact size_pkt) (hKK _ _ ?_); clear hKK KK) | ((with_reducible refine wpList_plain ?_ ?_); exact rfl; intro KK hKK; refine wp_st_store HS 0 4 30 (.tmp 26) (.tmp 24) rfl rfl rfl (.agg (pktA S.o.k S.o.e S.o.s (.slice A n c))) rfl (by exact size_pkt) (by show 4 + 4 ≤ 10; decide) (pkt_one ..) (sndC S.o S.o (.slice A n c) (.slice A n c) S.n S.t) (by exact rfl) (fun W1 HSx => hKK _ _ ?_); clear hKK KK HS; have HS : St w3 (fun k => k = g) [⟨g, 32, sndC S.o S.o (.slice A n c) (.slice A n c) S.n S.t⟩] W1 := HSx; clear HSx))
      have HAT : Hid (SndAt W1 g ⟨S.o, S.o, S.n, S.t⟩) := Lib.hid ⟨A, n, c, A, n, c, HS.row 0 rfl, puts_keep HPO3.out HS.chg (fun y hy _ => by subst hy; exact ⟨_, _, HR3.out, nou8_snd _ _ _ _ _ _ _ _ _ _⟩), puts_keep HPO3.out HS.chg (fun y hy _ => by subst hy; exact ⟨_, _, HR3.out, nou8_snd _ _ _ _ _ _ _ _ _ _⟩)⟩
      have HC2 := Lib.hid (HC.out.trans HS.chg (fun i hi => .inl hi))
      clear HS
      have C := replace_any g ⟨S.o, S.o, S.n, S.t⟩ pkt0 none 0 0 W1 HAT.out (puts_nil W1)
      go_wp2_with fail
      refine C.mono ?_
      rintro x w9 ⟨rfl, hs9, hc9⟩
      go_wp2_with fail
      go_end0
      exact ⟨rfl, hs9, HC2.out.trans hc9 (fun i hi => .inl hi)⟩
theorem missed_nil (w : World) : Calls Try.prog 13 #[.pointer none] w fun x w' => x = .returned (.int .i64 0) ∧ Below w.heap.size w w' := by
  go_enter Try.func13, Try.ntmps13
  go_wp2_with fail
  go_ret
  exact ⟨rfl, Below.refl _ _⟩
set_option maxHeartbeats 1600000 in
theorem missed_any (g : Nat) (S : Snd) (w : World) (h : SndAt w g S) (hn : 0 ≤ S.n ∧ S.n ≤ 1000000) :
    Calls Try.prog 13 #[.pointer (some ⟨g, 0, none⟩)] w fun x w' => x = .returned (.int .i64 (missN S)) ∧ SndAt w' g (missS S) ∧ Chg (fun k => k = g) w w' := by
  obtain ⟨A, n, c, B, m, d, hr, hpo, hpp⟩ := h
  have HR := Lib.hid hr
  have HPO := Lib.hid hpo
  have HPP := Lib.hid hpp
  clear hr hpo hpp
  have CI := fun W => is_any S.o.k S.o.e S.o.s (.slice A n c) W
  have HS := st_only HR.out
  have hw : IntKind.i64.wrap (S.n + 1) = S.n + 1 := by rw [IntKind.wrap_i64]; omega
  by_cases h0 : S.o.k = 0
  · have hS : missS S = S := if_pos h0
    have hN : missN S = 0 := if_pos h0
    rw [hS, hN]
    rw [decide_eq_false (by simp [h0])] at CI
    clear hS hN h0
    go_enter Try.func13, Try.ntmps13
    go_wp2_with (first | (refine wpList_guarded (by rfl) (fun KK hKK => ?_); refine wp_st_load HS 0 0 30 (.tmp 8) rfl rfl rfl (pktA S.o.k S.o.e S.o.s (.slice A n c)) (by exact rfl) _ Try.underlying30 rfl (by exact size_pkt) (hKK _ _ ?_); clear hKK KK))
    refine (CI _).mono ?_
    rintro x w3 ⟨rfl, hb⟩
    have HAT : Hid (SndAt w3 g S) := Lib.hid (SndAt.call ⟨A, n, c, B, m, d, HR.out, HPO.out, HPP.out⟩ hb)
    have HC : Hid (Chg (fun k => k = g) w w3) := Lib.hid (Chg.of_below hb)
    clear HS CI hb
    go_wp2_with fail
    go_ret
    exact ⟨rfl, HAT.out, HC.out⟩
  · have hS : missS S = ⟨S.o, S.p, S.n + 1, S.t⟩ := if_neg h0
    have hN : missN S = S.n + 1 := if_neg h0
    rw [hS, hN]
    rw [decide_eq_true h0] at CI
    clear hS hN h0
    go_enter Try.func13, Try.ntmps13
    go_wp2_with (first | (refine wpList_guarded (by rfl) (fun KK hKK => ?_); refine wp_st_load HS 0 0 30 (.tmp 8) rfl rfl rfl (pktA S.o.k S.o.e S.o.s (.slice A n c)) (by exact rfl) _ Try.underlying30 rfl (by exact size_pkt) (hKK _ _ ?_); clear hKK KK))
    refine (CI _).mono ?_
    rintro x w3 ⟨rfl, hb⟩
    have HR3 := Lib.hid (HR.out.call hb)
    have HPO3 := Lib.hid (HPO.out.below hb (Nat.le_refl _))
    have HPP3 := Lib.hid (HPP.out.below hb (Nat.le_refl _))
    have HC : Hid (Chg (fun k => k = g) w w3) := Lib.hid (Chg.of_below hb)
    clear HS CI hb
    have HS := st_only HR3.out
    have c8 : w3.cell? ⟨g, 8, none⟩ = some (.int .i64 S.n) := HR3.out.get rfl
    go_upto_region 4 with (first | ((with_reducible refine wpList_plain ?_ ?_); exact rfl; intro KK hKK; refine wp_st_put HS 0 8 3 (.tmp 19) (.tmp 17) rfl rfl rfl (.int .i64 (S.n + 1)) rfl (by kernel_rfl) rfl rfl (by show 8 < 10; decide) (sndC S.o S.p (.slice A n c) (.slice B m d) (S.n + 1) S.t) (by exact rfl) (fun W1 HSx => hKK _ _ ?_); clear hKK KK HS; have HS : St w3 (fun k => k = g) [⟨g, 32, sndC S.o S.p (.slice A n c) (.slice B m d) (S.n + 1) S.t⟩] W1 := HSx; clear HSx))
    have KF : Hid (∀ y, y = g → y < w3.heap.size → ∃ t cs, Row w3 y t cs ∧ NoU8 cs) := Lib.hid (fun y hy _ => by subst hy; exact ⟨_, _, HR3.out, nou8_snd _ _ _ _ _ _ _ _ _ _⟩)
    have HAT : Hid (SndAt W1 g ⟨S.o, S.p, S.n + 1, S.t⟩) := Lib.hid ⟨A, n, c, B, m, d, HS.row 0 rfl, puts_keep HPO3.out HS.chg KF.out, puts_keep HPP3.out HS.chg KF.out⟩
    have HC2 := Lib.hid (HC.out.trans HS.chg (fun i hi => .inl hi))
    have c9 : W1.cell? ⟨g, 8, none⟩ = some (.int .i64 (S.n + 1)) := (HS.row 0 rfl).get rfl
    clear HS c8
    go_wp2_with fail
    go_ret
    exact ⟨rfl, HAT.out, HC2.out⟩
end Go.Proofs.Ytppbgkdkioldbaa
