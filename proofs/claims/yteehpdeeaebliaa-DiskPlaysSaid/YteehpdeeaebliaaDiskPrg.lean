/- The program's own disk: what it is in memory; Len, has, goesThrough. -/
import Derived.Test.YteehpdeeaebliaaDiskRefN
namespace Go.Proofs.Yteehpdeeaebliaa
open Go Go.RowKit
structure p_RefD (base : Nat) (w : World) (g : Nat) (vs vl : Value) (M : DiskM) : Prop where
  hb : base ≤ g
  row : Row w g 62 #[vs, vl, .int .i64 M.f, .bool M.down]
  sec : w.ownsRow base 37 32 vs M.s.length (M.s.map bytesV).flatten
  loo : w.ownsRow base 65 33 vl M.l.length (M.l.map wcell).flatten
  ok : M.Ok
theorem p_RefD.next {base : Nat} {w w' : World} {g : Nat} {vs vl : Value} {M M' : DiskM} (h : p_RefD base w g vs vl M) (hs : M'.s = M.s) (hl : M'.l = M.l) (hok : M'.Ok) (r : Row w' g 62 #[vs, vl, .int .i64 M'.f, .bool M'.down]) (c : Chg (fun k => k = g) w w') : p_RefD base w' g vs vl M' :=
  ⟨h.hb, r, by rw [hs]; exact own_chg h.sec c (own_apart h.sec h.row (by decide)), by rw [hl]; exact own_chg h.loo c (own_apart h.loo h.row (by decide)), hok⟩
theorem p_RefD.keep {F : Nat → Prop} {base : Nat} {w w' : World} {g : Nat} {vs vl : Value} {M : DiskM} (h : p_RefD base w g vs vl M) (c : Chg F w w') (hg : ¬ F g) (hs : ∀ k, vs.ownBlock = some k → ¬ F k) (hl : ∀ k, vl.ownBlock = some k → ¬ F k) : p_RefD base w' g vs vl M :=
  ⟨h.hb, h.row.chg c hg, own_chg h.sec c hs, own_chg h.loo c hl, h.ok⟩
theorem p_RefD.below {base : Nat} {w w' : World} {g : Nat} {vs vl : Value} {M : DiskM} (h : p_RefD base w g vs vl M) (c : Below w.heap.size w w') : p_RefD base w' g vs vl M :=
  h.keep (F := fun _ => False) (Chg.of_below c) id (fun _ _ => id) (fun _ _ => id)
set_option maxHeartbeats 400000 in
theorem plen_any (base : Nat) (w : World) (g : Nat) (vs vl : Value) (M : DiskM) (h : p_RefD base w g vs vl M) :
    Calls Try.prog 24 #[.pointer (some ⟨g, 0, none⟩)] w fun e w' => e = .returned (.int .i64 (M.s.length : Int)) ∧ w = w' := by
  have k0 := h.row.get (i := 0) rfl
  obtain ⟨A, c, rfl, _⟩ := own_slice_form h.sec
  generalize M.s.length = n at *
  clear h
  go_enter Try.func24, Try.ntmps24
  go_wp2_with fail
  go_ret
  exact ⟨rfl, rfl⟩
set_option maxHeartbeats 400000 in
theorem plen_nil (w : World) :
    Calls Try.prog 24 #[.pointer none] w fun e w' => e = .returned (.int .i64 0) ∧ w = w' := by
  go_enter Try.func24, Try.ntmps24
  go_wp2_with fail
  go_ret
  exact ⟨rfl, rfl⟩
set_option maxHeartbeats 400000 in
theorem phas_raw (w : World) (p : Value) (n : Nat) (i : Int) (C : Calls Try.prog 24 #[p] w fun e w' => e = .returned (.int .i64 (n : Int)) ∧ w = w') :
    Calls Try.prog 26 #[p, .int .i64 i] w fun e w' => e = .returned (.bool (decide (0 ≤ i) && decide (i < (n : Int)))) ∧ w = w' := by
  by_cases h0 : 0 ≤ i
  · have hd : decide (0 ≤ i) = true := decide_eq_true h0
    rw [hd, Bool.true_and]
    go_enter Try.func26, Try.ntmps26
    go_wp2_with fail
    refine C.mono ?_
    rintro e w1 ⟨rfl, rfl⟩
    go_wp2_with fail
    go_ret
    exact ⟨rfl, rfl⟩
  · have hd : decide (0 ≤ i) = false := decide_eq_false h0
    rw [hd, Bool.false_and]
    clear C
    go_enter Try.func26, Try.ntmps26
    go_wp2_with fail
    go_ret
    exact ⟨rfl, rfl⟩
theorem p_refhas_any (base : Nat) (w : World) (g : Nat) (vs vl : Value) (M : DiskM) (i : Int) (h : p_RefD base w g vs vl M) :
    Calls Try.prog 26 #[.pointer (some ⟨g, 0, none⟩), .int .i64 i] w fun e w' => e = .returned (.bool (M.has i)) ∧ w = w' :=
  phas_raw w _ M.s.length i (plen_any base w g vs vl M h)
theorem phas_nil (w : World) (i : Int) :
    Calls Try.prog 26 #[.pointer none, .int .i64 i] w fun e w' => e = .returned (.bool false) ∧ w = w' := by
  have C := phas_raw w _ 0 i (plen_nil w)
  rw [show (decide (0 ≤ i) && decide (i < ((0 : Nat) : Int))) = false by by_cases h : 0 ≤ i <;> simp [h]] at C
  exact C
def p_ThruPost (w : World) (g : Nat) (vs vl : Value) (b : Bool) (f : Int) (down : Bool) : Ending → World → Prop := fun e w' => e = .returned (.bool b) ∧ Row w' g 62 #[vs, vl, .int .i64 f, .bool down] ∧ Chg (fun k => k = g) w w'
set_option maxHeartbeats 400000 in
theorem p_refthru_raw (w : World) (g : Nat) (vs vl : Value) (f : Int) (down : Bool) (h : Row w g 62 #[vs, vl, .int .i64 f, .bool down]) (hf : -9223372036854775808 ≤ f ∧ f < 9223372036854775808) :
    Calls Try.prog 27 #[.pointer (some ⟨g, 0, none⟩)] w (p_ThruPost w g vs vl (!(down || f == 0)) (if down || f == 0 then f else if 0 < f then f - 1 else f) (down || f == 0)) := by
  have k2 : w.cell? ⟨g, 2, none⟩ = some (.int .i64 f) := h.get rfl
  have k3 : w.cell? ⟨g, 3, none⟩ = some (.bool down) := h.get rfl
  have f2 := h.free 2
  have f3 := h.free 3
  have R := Lib.hid h
  clear h
  have R3 : Hid (Row (w.setCell ⟨g, 3, none⟩ (.bool true)) g 62 #[vs, vl, .int .i64 f, .bool true]) := Lib.hid (R.out.put 3 (.bool true))
  have R2 : Hid (Row (w.setCell ⟨g, 2, none⟩ (.int .i64 (f - 1))) g 62 #[vs, vl, .int .i64 (f - 1), .bool down]) := Lib.hid (R.out.put 2 (.int .i64 (f - 1)))
  have C3 : Hid (Chg (fun k => k = g) w (w.setCell ⟨g, 3, none⟩ (.bool true))) := Lib.hid (Chg.one w g 3 _)
  have C2 : Hid (Chg (fun k => k = g) w (w.setCell ⟨g, 2, none⟩ (.int .i64 (f - 1)))) := Lib.hid (Chg.one w g 2 _)
  by_cases h0 : f = 0
  · subst h0
    have e : (down || ((0 : Int) == 0)) = true := by cases down <;> rfl
    rw [e, if_pos rfl]
    have k4 := R3.out.get (i := 3) rfl
    clear e
    go_enter Try.func27, Try.ntmps27
    go_wp2_with fail
    go_ret
    exact ⟨rfl, R3.out, C3.out⟩
  · have hz : (f == 0) = false := beq_eq_false_iff_ne.2 h0
    rw [hz]
    clear h0
    cases down with
    | true =>
      rw [Bool.true_or, if_pos rfl]
      go_enter Try.func27, Try.ntmps27
      go_wp2_with fail
      go_ret
      exact ⟨rfl, R.out, Chg.refl _ _⟩
    | false =>
      rw [Bool.false_or, if_neg (by decide)]
      by_cases hp : 0 < f
      · rw [if_pos hp]
        have hd : decide (0 < f) = true := decide_eq_true hp
        go_enter Try.func27, Try.ntmps27
        go_wp2_with fail
        go_ret
        exact ⟨rfl, R2.out, C2.out⟩
      · rw [if_neg hp]
        have hd : decide (0 < f) = false := decide_eq_false hp
        go_enter Try.func27, Try.ntmps27
        go_wp2_with fail
        go_ret
        exact ⟨rfl, R.out, Chg.refl _ _⟩
end Go.Proofs.Yteehpdeeaebliaa
