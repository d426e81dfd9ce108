/- SenderNone: for every step the call returns true and changes nothing that it was handed. Conditions: those of the row. -/
import Derived.Test.YtppbgkdkioldbaaRows
import Derived.Test.YtppbgkdkioldbaaMWal0
import Derived.Test.YtppbgkdkioldbaaMGen0
/- The statement SenderNone: its walk. -/
set_option maxRecDepth 4000
namespace Go.Proofs.Ytppbgkdkioldbaa
open Go Go.RowKit
theorem size_stp : (Try.prog.info? 37).map (·.size) = some 7 := by kernel_rfl
set_option maxHeartbeats 3200000 in
theorem sdnone_walk (kd pk : Int) (e s : BitVec 32) (lp lq : List Pt) (bb : Bool) (A : Option Addr) (n c : Nat) (B : Option Addr) (m d : Nat) (w : World) (hp : PutsAt w (.slice A n c) lp) (hq : PutsAt w (.slice B m d) lq) :
    Calls Try.prog 6 #[.agg (stpA kd pk e s (.slice A n c) (.slice B m d) bb)] w fun x w' => x = .returned (.bool true) ∧ Below w.heap.size w w' := by
  have hln := puts_len hp
  have hlm := puts_len hq
  have HS := St.nil w noF
  go_enter Try.func6, Try.ntmps6
  go_upto_region 1 with (first | ((with_reducible refine wpList_plain ?_ ?_); exact rfl; intro KK hKK; refine wp_st_box HS 37 (.tmp 0) rfl _ rfl (stpA kd pk e s (.slice A n c) (.slice B m d) bb) (rfl) (fun g1 W1 HSx => hKK _ _ ?_); clear hKK KK HS; have HS : St w noF [⟨g1, 37, stpA kd pk e s (.slice A n c) (.slice B m d) bb⟩] W1 := HSx; clear HSx))
  have HLE : Hid (LensAt (W1.alloc (.cells (stpA kd pk e s (.slice A n c) (.slice B m d) bb) 37)) (some ⟨W1.heap.size, 0, none⟩) 1 (fun _ => (n, m))) := Lib.hid fun k hk => by
    obtain rfl : k = 0 := by omega
    exact ⟨_, _, A, c, B, d, rfl, (Row.fresh W1 37 (stpA kd pk e s (.slice A n c) (.slice B m d) bb)).get rfl, (Row.fresh W1 37 (stpA kd pk e s (.slice A n c) (.slice B m d) bb)).get rfl⟩
  have C := fairS_any _ 1 1 _ _ HLE.out (by decide)
  obtain ⟨G, hG⟩ : ∃ G, fairS 1 (fun _ => (n, m)) = G := ⟨_, rfl⟩
  rw [hG] at C
  have HSx := Lib.hid (HS.same ((Below.refl W1.heap.size W1).alloc (Nat.le_refl _) (.cells (stpA kd pk e s (.slice A n c) (.slice B m d) bb) 37)))
  clear hG HLE hln hlm
  go_wp2_with (first | ((with_reducible refine wpList_plain ?_ ?_); exact rfl; intro KK hKK; refine wp_st_load HS 0 0 37 (.tmp 1) rfl rfl rfl (stpA kd pk e s (.slice A n c) (.slice B m d) bb) (slab_whole _) _ Try.underlying37 rfl (by exact size_stp) (hKK _ _ ?_); clear hKK KK) | ((with_reducible refine wpList_plain ?_ ?_); exact rfl; intro KK hKK; refine wp_buildOne 22 37 (.tmp 10) rfl (stpA kd pk e s (.slice A n c) (.slice B m d) bb) _ 7 rfl Try.underlying22 rfl rfl (by decide) (by decide) (hKK _ _ ?_); clear hKK KK))
  refine C.mono ?_
  rintro x W9 ⟨rfl, hw9⟩
  clear HS C
  have HS := HSx.out
  rw [hw9] at HS
  clear HSx hw9
  cases G with
  | false =>
    go_wp2_with fail
    refine (sndwakes_any W9).mono ?_
    rintro x v8 ⟨rfl, hb⟩
    go_wp2_with fail
    go_ret
    exact ⟨rfl, HS.below.trans (hb.mono HS.below.size)⟩
  | true =>
    have c5 : W9.cell? ⟨g1, 5, none⟩ = some (.slice B m d) := (HS.row 0 rfl).get rfl
    have c6 : W9.cell? ⟨g1, 6, none⟩ = some (.bool bb) := (HS.row 0 rfl).get rfl
    have C := touch_nil (.slice B m d) W9
    go_wp2_with fail
    refine C.mono ?_
    rintro x v1 ⟨rfl, hb⟩
    have HSx := HS.same hb
    clear HS
    have HS := HSx
    clear HSx
    clear C hb c5 c6
    have c6 : v1.cell? ⟨g1, 6, none⟩ = some (.bool bb) := (HS.row 0 rfl).get rfl
    have C := stop_nil bb v1
    go_wp2_with fail
    refine C.mono ?_
    rintro x v2 ⟨rfl, hb⟩
    have HSx := HS.same hb
    clear HS
    have HS := HSx
    clear HSx
    clear C hb c6
    have C := out_nil v2
    go_wp2_with fail
    refine C.mono ?_
    rintro x v3 ⟨rfl, hb⟩
    have HSx := HS.same hb
    clear HS
    have HS := HSx
    clear HSx
    clear C hb
    go_upto_region 7 with (first | ((with_reducible refine wpList_plain ?_ ?_); exact rfl; intro KK hKK; refine wp_st_alloc HS 30 (pktA 0 0#32 0#32 (.slice none 0 0)) rfl (.agg (pktA 0 0#32 0#32 (.slice none 0 0))) (by kernel_rfl) (rfl) (fun g4 W31 HSx => hKK _ _ ?_); clear hKK KK HS; have HS : St w noF [⟨g1, 37, stpA kd pk e s (.slice A n c) (.slice B m d) bb⟩, ⟨g4, 30, pktA 0 0#32 0#32 (.slice none 0 0)⟩] W31 := HSx; clear HSx) | ((with_reducible refine wpList_plain ?_ ?_); exact rfl; intro KK hKK; refine wp_st_store HS 1 0 30 (.tmp 4) (.tmp 26) rfl rfl rfl (.agg (pktA 0 0#32 0#32 (.slice none 0 0))) rfl (by exact size_pkt) (Nat.le_refl 4) (pkt_one ..) (pktA 0 0#32 0#32 (.slice none 0 0)) (by exact spl_agg _ _ _ rfl rfl) (fun W32 HSx => hKK _ _ ?_); clear hKK KK HS; have HS : St w noF [⟨g1, 37, stpA kd pk e s (.slice A n c) (.slice B m d) bb⟩, ⟨g4, 30, pktA 0 0#32 0#32 (.slice none 0 0)⟩] W32 := HSx; clear HSx))
    have C := early_nil W32
    go_wp2_with fail
    refine C.mono ?_
    rintro x v4 ⟨rfl, hb⟩
    have HSx := HS.same hb
    clear HS
    have HS := HSx
    clear HSx
    clear C hb
    go_upto_region 8 with (first | ((with_reducible refine wpList_plain ?_ ?_); exact rfl; intro KK hKK; refine wp_st_alloc HS 30 (pktA 0 0#32 0#32 (.slice none 0 0)) rfl (.agg (pktA 0 0#32 0#32 (.slice none 0 0))) (by kernel_rfl) (rfl) (fun g6 W41 HSx => hKK _ _ ?_); clear hKK KK HS; have HS : St w noF [⟨g1, 37, stpA kd pk e s (.slice A n c) (.slice B m d) bb⟩, ⟨g4, 30, pktA 0 0#32 0#32 (.slice none 0 0)⟩, ⟨g6, 30, pktA 0 0#32 0#32 (.slice none 0 0)⟩] W41 := HSx; clear HSx) | ((with_reducible refine wpList_plain ?_ ?_); exact rfl; intro KK hKK; refine wp_st_store HS 2 0 30 (.tmp 6) (.tmp 31) rfl rfl rfl (.agg (pktA 0 0#32 0#32 (.slice none 0 0))) rfl (by exact size_pkt) (Nat.le_refl 4) (pkt_one ..) (pktA 0 0#32 0#32 (.slice none 0 0)) (by exact spl_agg _ _ _ rfl rfl) (fun W42 HSx => hKK _ _ ?_); clear hKK KK HS; have HS : St w noF [⟨g1, 37, stpA kd pk e s (.slice A n c) (.slice B m d) bb⟩, ⟨g4, 30, pktA 0 0#32 0#32 (.slice none 0 0)⟩, ⟨g6, 30, pktA 0 0#32 0#32 (.slice none 0 0)⟩] W42 := HSx; clear HSx))
    have C := acked_nil ⟨pk, e, s, lp⟩ (.slice A n c) W42
    simp only at C
    go_wp2_with (first | ((with_reducible refine wpList_plain ?_ ?_); exact rfl; intro KK hKK; refine wp_st_load HS 0 1 30 (.tmp 35) rfl rfl rfl (pktA pk e s (.slice A n c)) (by exact rfl) _ Try.underlying30 rfl (by exact size_pkt) (hKK _ _ ?_); clear hKK KK))
    refine C.mono ?_
    rintro x v5 ⟨rfl, hb⟩
    have HSx := HS.same hb
    clear HS
    have HS := HSx
    clear HSx
    clear C hb
    have C := send_nil ⟨pk, e, s, lp⟩ (.slice A n c) v5
    simp only at C
    go_wp2_with (first | ((with_reducible refine wpList_plain ?_ ?_); exact rfl; intro KK hKK; refine wp_st_load HS 0 1 30 (.tmp 41) rfl rfl rfl (pktA pk e s (.slice A n c)) (by exact rfl) _ Try.underlying30 rfl (by exact size_pkt) (hKK _ _ ?_); clear hKK KK))
    refine C.mono ?_
    rintro x v6 ⟨rfl, hb⟩
    have HSx := HS.same hb
    clear HS
    have HS := HSx
    clear HSx
    clear C hb
    have c4 : v6.cell? ⟨g4, 0, none⟩ = some (.int .i64 0) := (HS.row 1 rfl).get rfl
    have c6 : v6.cell? ⟨g6, 0, none⟩ = some (.int .i64 0) := (HS.row 2 rfl).get rfl
    have C := missed_nil v6
    go_wp2_with fail
    refine C.mono ?_
    rintro x v7 ⟨rfl, hb⟩
    have HSx := HS.same hb
    clear HS
    have HS := HSx
    clear HSx
    clear C hb
    go_wp2_with fail
    refine (sndwakes_any v7).mono ?_
    rintro x v8 ⟨rfl, hb⟩
    go_wp2_with fail
    go_ret
    exact ⟨rfl, HS.below.trans (hb.mono HS.below.size)⟩
end Go.Proofs.Ytppbgkdkioldbaa

/- SenderNone: for every step the call returns true and changes nothing that it was handed. Conditions: those of the row. -/
set_option maxRecDepth 4000
namespace Go.Proofs.Ytppbgkdkioldbaa.senderNone
open Go Go.ChangeShapes Go.WideShapes Go.ChangeAt Go.RowKit

theorem contract (H : Type) (enc : TypeId × Value → H) (W : World) (base : Nat) (args : Array Value) (ds gs : List (DataW H)) (before : List MemPlace)
    (hval : ∀ (j : Nat) t v, Try.f6.params[j]? = some t → args[j]? = some v → Value.okWide Try.prog W .any base t v)
    (hW : DataW.Whole enc Try.prog Try.f6.params.toList Rows.senderNoneSpec.vars false W args.toList ds gs before) :
    Calls Try.prog 6 args W fun e W' => ∃ v, e = .returned v ∧ Rows.senderNoneSpec.post enc Try.prog Try.f6 false true false false W args v W' := by
  have hW' := hW
  obtain ⟨p, q, hA0, hV, rfl, _, _⟩ := hW
  have hA : DataW.TrodAll enc Try.prog W 0 (fun _ => true) true Try.f6.params.toList args.toList ds p := hA0
  rw [Try.params6] at hA hval
  obtain ⟨v0, vs0, d0, ds0, p0, q0, hargs, rfl, rfl, h0, r0⟩ := trodAll_cons hA
  obtain ⟨rfl, rfl, rfl⟩ := trodAll_nil r0
  obtain rfl : args = #[v0] := by cases args; simp_all
  obtain ⟨rfl, rfl⟩ := trodVars_none hV
  have hlt0 : ∀ x ∈ p0, x.block < W.heap.size := fun x hx => hW'.lt x (by simp [hx])
  obtain ⟨kd0, pk0, e0, s0, lp0, lq0, bb0, A0, n0, c0, B0, m0, dd0, rfl, hp0, hq0⟩ := open_stp (hval 0 37 v0 rfl rfl) h0 hlt0
  refine (sdnone_walk kd0 pk0 e0 s0 lp0 lq0 bb0 A0 n0 c0 B0 m0 dd0 W hp0 hq0).mono fun e W' ⟨he, hb⟩ => ?_
  subst he
  exact ⟨_, rfl, [d0], [], _, [], _, [], hW', trodAll_cons_mk (shut_bool Try.underlying4 _) trodAll_mk0, trodAll_cons_mk (Below.trod laidOutT (by kernel_rfl) (of_decide_eq_true (by kernel_rfl)) h0 hb hlt0) trodAll_mk0, rfl, hb.frame _, fun h => by cases h⟩

set_option maxRecDepth 100000 in
theorem lifted (os : Os) (started : os.Started) (H : Type) (enc : TypeId × Value → H) :
    ReturnsInHanded {} Try.checked os 6 .any (Rows.senderNoneSpec.pre6 enc Try.prog Try.f6 Rows.senderNoneRow.domain false) (Rows.senderNoneSpec.post enc Try.prog Try.f6 false true false false) := by
  refine returnsInHanded_of_change (C := Try.checked) ownK started (by kernel_rfl) Try.func6
    (ChangeSpec.witness6 (enc := enc) (C := Try.checked) false ⟨#[], #[.agg #[.int .i64 0, .int .i64 0, .int .u32 0, .int .u32 0, .slice none 0 0, .slice none 0 0, .bool false]], []⟩ 8 (by kernel_rfl) (by kernel_rfl) (by kernel_rfl) (by kernel_rfl)) ?_
  intro W base args ds gs before hval hW _ _
  exact contract H enc W base args ds gs before hval hW

theorem said : Rows.SenderNoneSaid :=
  OpenClaim.holds_of_wide 6 Try.f6 rfl rfl rfl rfl rfl rfl rfl ⟨rfl, rfl, rfl, rfl, rfl⟩ rfl rfl rfl rfl rfl (by kernel_rfl) Try.func6 (by kernel_rfl)
    (of_decide_eq_true (by kernel_rfl)) (by unfold Func.isWrapper; first | (rw [if_pos (by decide +kernel)]; kernel_rfl) | (rw [if_neg (by decide +kernel)]; exact ⟨rfl, rfl⟩))
    (fun os started H enc _ => lifted os started H enc)
end Go.Proofs.Ytppbgkdkioldbaa.senderNone
