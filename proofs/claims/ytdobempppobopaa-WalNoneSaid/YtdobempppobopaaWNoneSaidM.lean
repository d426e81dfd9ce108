/- WalNone: for every record and number the call returns true and changes nothing that it was handed. Conditions: those of the row. -/
import Derived.Test.YtdobempppobopaaRows
import Derived.Test.YtdobempppobopaaMWal0
import Derived.Test.YtdobempppobopaaMGen0
import Derived.Test.YtdobempppobopaaMWal1
import Derived.Test.YtdobempppobopaaMGen1
/- The statement WalNone: its walk. -/
set_option maxRecDepth 4000
namespace Go.Proofs.Ytdobempppobopaa
open Go Go.RowKit
theorem none_get {M : DiskM} {f : Int} (h : M.s.length = 5) : walGet M f = (rec0, 1) := by
  have hm : mayB M f = false := by unfold mayB; rw [h]; by_cases h0 : 0 ≤ f; rw [decide_eq_false (show ¬ f + 6 ≤ ((5 : Nat) : Int) by omega), Bool.and_false]; rw [decide_eq_false h0, Bool.false_and]
  unfold walGet; rw [hm]; rfl
theorem none_put {M : DiskM} {f : Int} (r : Rec) (h : M.s.length = 5) : walPut M f r = (1, M) := by
  have hm : mayB M f = false := by unfold mayB; rw [h]; by_cases h0 : 0 ≤ f; rw [decide_eq_false (show ¬ f + 6 ≤ ((5 : Nat) : Int) by omega), Bool.and_false]; rw [decide_eq_false h0, Bool.false_and]
  unfold walPut; rw [hm]; rfl
set_option maxRecDepth 20000 in
set_option maxHeartbeats 1600000 in
theorem wnone_walk (D : DiskOps) (O : WalOps D) (e0 s0 : BitVec 32) (A : Option Addr) (c : Nat) (l : List (Int × List (BitVec 8))) (f : Int) (w : World) (hv : PutsAt w (.slice A l.length c) l) (_hm : l.length ≤ maxLen) (hf : -9223372036854775808 ≤ f ∧ f < 9223372036854775808) :
    Calls Try.prog 5 #[.agg (recW ⟨e0, s0, l⟩ (.slice A l.length c)), .int .i64 f] w fun e w' => e = .returned (.bool true) ∧ Below w.heap.size w w' := by
  have HW := Lib.hid (fun W => wwakes_any D O W)
  obtain ⟨X, hX⟩ : ∃ X, recW ⟨e0, s0, l⟩ (.slice A l.length c) = X := ⟨_, rfl⟩
  have HX2 : Hid (X[2]? = some (.slice A l.length c)) := Lib.hid (by rw [← hX]; rfl)
  have HXS : Hid ((Try.prog.info? 36).map (·.size) = some X.size) := Lib.hid (by rw [← hX]; exact size_recW)
  have C9 : Hid (∀ W, PutsAt W (.slice A l.length c) l → l.length ≤ maxLen → Calls Try.prog 12 #[nilPtr, .int .i64 f, .agg X] W (Asks W (.int .i64 1))) := Lib.hid (fun W h h2 => by rw [← hX]; exact O.putNil W f e0 s0 A c l hf h h2)
  have C8 : Hid (∀ base W p F, D.A base W p (DiskM.new 5) F → PutsAt W (.slice A l.length c) l → l.length ≤ maxLen → (l ≠ [] → ∀ k, (Value.slice A l.length c).ownBlock = some k → k < W.heap.size ∧ ¬ F k) → base ≤ W.heap.size → Calls Try.prog 12 #[p, .int .i64 f, .agg X] W (Acts D.A base W p F (DiskM.new 5) (.int .i64 1))) := Lib.hid (fun base W p F h1 h2 h3 h4 h5 => by
    have := O.put base W p (DiskM.new 5) F f e0 s0 A c l h1 hf h2 h3 h4 (by decide) h5
    rw [none_put _ rfl, hX] at this
    exact this)
  have C7 : Hid (∀ W, Calls Try.prog 15 #[nilPtr, .int .i64 f] W (ToldP W rec0 1)) := Lib.hid (fun W => O.getNil W f hf)
  have C6 : Hid (∀ base W p F, D.A base W p (DiskM.new 5) F → Calls Try.prog 15 #[p, .int .i64 f] W (ToldP W rec0 1)) := Lib.hid (fun base W p F h => by
    have := O.get base W p (DiskM.new 5) F f h hf (by decide)
    rw [none_get rfl] at this
    exact this)
  have C0 := fun (W : World) (hb : w.heap.size ≤ W.heap.size) => D.new w.heap.size W 5 hb (by decide)
  rw [hX]
  obtain ⟨n, hn⟩ : ∃ n, l.length = n := ⟨_, rfl⟩
  have HN := Lib.hid hn
  have HV := Lib.hid hv
  rw [hn] at HV HX2 C9 C8
  have HC0 := Lib.hid C0
  have HAW : Hid (∀ k, (Value.slice A n c).ownBlock = some k → l ≠ [] → k < w.heap.size) := Lib.hid (fun k hk hne => by
    obtain ⟨A', c', e1, _, _, h4⟩ := HV.out
    obtain ⟨b, o, rfl, h6, _⟩ := h4 hne
    injection e1 with e1 _ _
    subst e1
    cases hk
    exact h6)
  unfold nilPtr at C9 C7
  clear hX hv hn C0 hf
  go_enter Try.func5, Try.ntmps5
  go_upto_region 1 with fail
  have R2 := Lib.hid (Row.fresh w 36 X)
  have HB2 := Lib.hid (Same.alloc w (.cells X 36))
  have HV2 := Lib.hid (HV.out.below HB2.out (Nat.le_refl _))
  have hs2 : w.heap.size < (w.alloc (.cells X 36)).heap.size := R2.out.lt
  have HS2 := Lib.hid hs2
  obtain ⟨g2, hg2⟩ : ∃ g, w.heap.size = g := ⟨_, rfl⟩
  have HG2 := Lib.hid hg2
  rw [hg2] at R2 HS2
  rw [hg2]
  clear hg2 hs2
  generalize w.alloc (.cells X 36) = W2 at *
  have k2 := R2.out.get HX2.out
  by_cases h50 : 50 < n
  · have hq : decide ((50 : Int) < (n : Int)) = true := decide_eq_true (by omega)
    go_wp2_with fail
    refine (HW.out _).mono ?_
    rintro e W3 ⟨rfl, hb3⟩
    have hbb := HB2.out.trans (hb3.mono HB2.out.size)
    clear hb3
    go_wp2_with fail
    go_ret
    exact ⟨rfl, hbb⟩
  have hq : decide ((50 : Int) < (n : Int)) = false := decide_eq_false (by omega)
  have HL : Hid (n ≤ maxLen) := Lib.hid (by unfold maxLen; omega)
  go_wp2_with fail
  have C := HC0.out W2 HB2.out.size
  rw [makes_yes _ _ _ _ (by decide)] at C
  refine C.mono ?_
  rintro e W3 ⟨g, F, rfl, hA, hb3, hF⟩
  have hA : D.A w.heap.size W3 (.pointer (some ⟨g, 0, none⟩)) (DiskM.new 5) F := hA
  have HA3 := Lib.hid hA
  have HB3 := Lib.hid (HB2.out.trans (hb3.mono HB2.out.size))
  have R23 := Lib.hid (R2.out.call hb3)
  have HV3 := Lib.hid (HV2.out.below hb3 (Nat.le_refl _))
  have HF2 : Hid (¬ F g2) := Lib.hid (fun h => by have := hF g2 h; have := R2.out.lt; omega)
  have HFA : Hid (∀ k, (Value.slice A n c).ownBlock = some k → l ≠ [] → k < W3.heap.size ∧ ¬ F k) := Lib.hid (fun k hk hne => by
    have h1 := HAW.out k hk hne
    have h2 := HB2.out.size
    have h3 := hb3.size
    exact ⟨by omega, fun h => by have := hF k h; omega⟩)
  clear C hA hb3 hF R2 HB2 HV2 HC0 HAW k2 HS2
  go_wp2_with fail
  refine (C7.out W3).mono ?_
  rintro e W4 ⟨A4, c4, rfl, _, hb4, _⟩
  have hs0 : (Value.slice A4 rec0.l.length c4) = .slice A4 0 c4 := rfl
  rw [hs0]
  have R24 := Lib.hid ((R23.out.call hb4).alloc (.cells (recW rec0 (.slice A4 0 c4)) 36))
  have HV4 := Lib.hid ((HV3.out.below hb4 (Nat.le_refl _)).below (Same.alloc W4 (.cells (recW rec0 (.slice A4 0 c4)) 36)) (Nat.le_refl _))
  have HA4 := Lib.hid (D.still (D.still HA3.out hb4) (Same.alloc W4 (.cells (recW rec0 (.slice A4 0 c4)) 36)))
  have HSA := Lib.hid (hb4.trans ((Same.alloc W4 (.cells (recW rec0 (.slice A4 0 c4)) 36)).mono hb4.size))
  have R7 := Lib.hid (Row.fresh W4 36 (recW rec0 (.slice A4 0 c4)))
  have HF7 : Hid (¬ F W4.heap.size) := Lib.hid (fun h => by have := (D.lt HA3.out _ h).2; have := hb4.size; omega)
  have hz := zeros_recW
  clear hb4 HA3 R23 HV3 hs0 C7
  go_upto_region 5 with (refine wpList_store_row rfl 36 _ _ rfl W4.heap.size (recW rec0 (.slice A4 0 c4)) rfl rfl 36 _ (Row.fresh _ _ _) (by exact size_recW) rfl (one_recW _ _) ?_; rw [World.setRow_alloc_new])
  clear hz
  generalize W4.heap.size = g7 at *
  generalize W4.alloc (.cells (recW rec0 (.slice A4 0 c4)) 36) = W5 at *
  have C := C6.out _ W5 _ F HA4.out
  go_wp2_with fail
  refine C.mono ?_
  rintro e W6 ⟨A6, c6, rfl, _, hb6, _⟩
  have hs0 : (Value.slice A6 rec0.l.length c6) = .slice A6 0 c6 := rfl
  rw [hs0]
  have R26 := Lib.hid ((R24.out.call hb6).alloc (.cells (recW rec0 (.slice A6 0 c6)) 36))
  have HV6 := Lib.hid ((HV4.out.below hb6 (Nat.le_refl _)).below (Same.alloc W6 (.cells (recW rec0 (.slice A6 0 c6)) 36)) (Nat.le_refl _))
  have HA6 := Lib.hid (D.still (D.still HA4.out hb6) (Same.alloc W6 (.cells (recW rec0 (.slice A6 0 c6)) 36)))
  have HSB := Lib.hid (HSA.out.trans ((hb6.trans ((Same.alloc W6 (.cells (recW rec0 (.slice A6 0 c6)) 36)).mono hb6.size)).mono HSA.out.size))
  have R76 := Lib.hid ((R7.out.call hb6).alloc (.cells (recW rec0 (.slice A6 0 c6)) 36))
  have R9 := Lib.hid (Row.fresh W6 36 (recW rec0 (.slice A6 0 c6)))
  have HF9 : Hid (¬ F W6.heap.size) := Lib.hid (fun h => by have := (D.lt HA4.out _ h).2; have := hb6.size; omega)
  have hz := zeros_recW
  clear C hb6 HA4 R24 HV4 hs0 C6 R7 HSA
  go_upto_region 6 with (refine wpList_store_row rfl 36 _ _ rfl W6.heap.size (recW rec0 (.slice A6 0 c6)) rfl rfl 36 _ (Row.fresh _ _ _) (by exact size_recW) rfl (one_recW _ _) ?_; rw [World.setRow_alloc_new])
  clear hz
  generalize W6.heap.size = g9 at *
  generalize W6.alloc (.cells (recW rec0 (.slice A6 0 c6)) 36) = W7 at *
  have k70 : W7.cell? ⟨g7, 0, none⟩ = some (.int .u32 0) := R76.out.get rfl
  have k72 : W7.cell? ⟨g7, 2, none⟩ = some (.slice A4 0 c4) := R76.out.get rfl
  have k92 : W7.cell? ⟨g9, 2, none⟩ = some (.slice A6 0 c6) := R9.out.get rfl
  have r2 := R26.out
  have C := C9.out W7 HV6.out HL.out
  have HARM : Hid (Try.prog.info? 36 = Try.prog.info? 36) := Lib.hid rfl
  go_wp2_with (first | (refine wpList_guarded (by rfl) (fun K hK => ?_); refine wp_load_row 36 _ rfl g2 rfl 36 X (0, 0) _ r2 Try.underlying36 rfl HXS.out (hK _ _ ?_)))
  refine C.mono ?_
  rintro e W8 ⟨rfl, hb8⟩
  have HA8 := Lib.hid (D.still HA6.out hb8)
  have HV8 := Lib.hid (HV6.out.below hb8 (Nat.le_refl _))
  have HSC := Lib.hid (HSB.out.trans (hb8.mono HSB.out.size))
  have r2b := R26.out.call hb8
  have HB8 := Lib.hid (HB3.out.trans (HSC.out.mono HB3.out.size))
  have C := C8.out w.heap.size W8 _ F HA8.out HV8.out HL.out (fun hne k hk => by
    have := HFA.out k hk hne
    have h2 := HSC.out.size
    exact ⟨by omega, this.2⟩) HB8.out.size
  clear hb8 HA6 HV6 HSB r2 k70 k72 k92
  go_wp2_with (first | (refine wpList_guarded (by rfl) (fun K hK => ?_); refine wp_load_row 36 _ rfl g2 rfl 36 X (0, 0) _ r2b Try.underlying36 rfl HXS.out (hK _ _ ?_)))
  refine C.mono ?_
  rintro e W9 ⟨rfl, F9, hA9, hC9, hF9⟩
  have HB9 := Lib.hid (HB8.out.trans (acts_below (D.lt HA8.out) hC9 HB8.out.size))
  clear C hA9 hC9 hF9 r2b
  go_wp2_with fail
  refine (HW.out _).mono ?_
  rintro e W10 ⟨rfl, hb10⟩
  have hbb := HB9.out.trans (hb10.mono HB9.out.size)
  clear hb10
  go_wp2_with fail
  go_ret
  exact ⟨rfl, hbb⟩
end Go.Proofs.Ytdobempppobopaa

/- WalNone: for every record and number the call returns true and changes nothing that it was handed. Conditions: those of the row. -/
set_option maxRecDepth 4000
namespace Go.Proofs.Ytdobempppobopaa.walNone
open Go Go.ChangeShapes Go.WideShapes Go.ChangeAt Go.RowKit

theorem contract (H : Type) (enc : TypeId × Value → H) (W : World) (base : Nat) (args : Array Value) (ds gs : List (DataW H)) (before : List MemPlace)
    (hval : ∀ (j : Nat) t v, Try.f5.params[j]? = some t → args[j]? = some v → Value.okWide Try.prog W .any base t v)
    (hW : DataW.Whole enc Try.prog Try.f5.params.toList Rows.walNoneSpec.vars false W args.toList ds gs before) :
    Calls Try.prog 5 args W fun e W' => ∃ v, e = .returned v ∧ Rows.walNoneSpec.post enc Try.prog Try.f5 false true false false W args v W' := by
  have hW' := hW
  obtain ⟨p, q, hA0, hV, rfl, _, _⟩ := hW
  have hA : DataW.TrodAll enc Try.prog W 0 (fun _ => true) true Try.f5.params.toList args.toList ds p := hA0
  rw [Try.params5] at hA hval
  obtain ⟨v0, vs0, d0, ds0, p0, q0, hargs, rfl, rfl, h0, r0⟩ := trodAll_cons hA
  obtain ⟨v1, vs1, d1, ds1, p1, q1, rfl, rfl, rfl, h1, r1⟩ := trodAll_cons r0
  obtain ⟨rfl, rfl, rfl⟩ := trodAll_nil r1
  obtain rfl : args = #[v0, v1] := by cases args; simp_all
  obtain ⟨rfl, rfl⟩ := trodVars_none hV
  have hlt0 : ∀ x ∈ p0, x.block < W.heap.size := fun x hx => hW'.lt x (by simp [hx])
  obtain ⟨e0, s0, A0, c0, l0, rfl, hS0, hm0⟩ := open_rec (hval 0 36 v0 rfl rfl) h0 hlt0
  obtain ⟨n1, rfl, rfl, rfl, wn1⟩ := open_int Try.underlying3 (hval 1 3 v1 rfl rfl) h1
  refine (wnone_walk diskOps walOps e0 s0 A0 c0 l0 n1 W hS0 hm0 (bounds_i64L wn1)).mono fun e W' ⟨he, hb⟩ => ?_
  subst he
  exact ⟨_, rfl, [d0, .lit (.int .i64 n1)], [], _, [], _, [], hW', trodAll_cons_mk (shut_bool Try.underlying4 _) trodAll_mk0, trodAll_cons_mk (Below.trod laidOutT (by kernel_rfl) (of_decide_eq_true (by kernel_rfl)) h0 hb hlt0) (trodAll_cons_mk (shut_int Try.underlying3 wn1) trodAll_mk0), rfl, hb.frame _, fun h => by cases h⟩

set_option maxRecDepth 100000 in
theorem lifted (os : Os) (started : os.Started) (H : Type) (enc : TypeId × Value → H) :
    ReturnsInHanded {} Try.checked os 5 .any (Rows.walNoneSpec.pre6 enc Try.prog Try.f5 Rows.walNoneRow.domain false) (Rows.walNoneSpec.post enc Try.prog Try.f5 false true false false) := by
  refine returnsInHanded_of_change (C := Try.checked) ownK started (by kernel_rfl) Try.func5
    (ChangeSpec.witness6 (enc := enc) (C := Try.checked) false ⟨#[], #[.agg #[.int .u32 0, .int .u32 0, .slice none 0 0], .int .i64 0], []⟩ 8 (by kernel_rfl) (by kernel_rfl) (by kernel_rfl) (by kernel_rfl)) ?_
  intro W base args ds gs before hval hW _ _
  exact contract H enc W base args ds gs before hval hW

theorem said : Rows.WalNoneSaid :=
  OpenClaim.holds_of_wide 5 Try.f5 rfl rfl rfl rfl rfl rfl rfl ⟨rfl, rfl, rfl, rfl, rfl⟩ rfl rfl rfl rfl rfl (by kernel_rfl) Try.func5 (by kernel_rfl)
    (of_decide_eq_true (by kernel_rfl)) (by unfold Func.isWrapper; first | (rw [if_pos (by decide +kernel)]; kernel_rfl) | (rw [if_neg (by decide +kernel)]; exact ⟨rfl, rfl⟩))
    (fun os started H enc _ => lifted os started H enc)
end Go.Proofs.Ytdobempppobopaa.walNone
