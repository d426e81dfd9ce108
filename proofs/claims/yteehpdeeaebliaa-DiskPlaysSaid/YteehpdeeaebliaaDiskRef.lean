/- The document's own disk: what it is in memory, what each of its calls does to it. -/
import Derived.Test.YteehpdeeaebliaaObj
import Derived.Test.YteehpdeeaebliaaDiskSpec
namespace Go.Proofs.Yteehpdeeaebliaa
open Go Go.RowKit
def wcell (x : Nat × List (BitVec 8)) : List Value := .int .i64 (x.1 : Int) :: bytesV x.2
def oneOf (v : Value) (k : Nat) : Prop := v.ownBlock = some k
structure RefD (base : Nat) (w : World) (g : Nat) (vs vl : Value) (M : DiskM) : Prop where
  hb : base ≤ g
  row : Row w g 52 #[vs, vl, .int .i64 M.f, .bool M.down]
  sec : w.ownsRow base 37 32 vs M.s.length (M.s.map bytesV).flatten
  loo : w.ownsRow base 67 33 vl M.l.length (M.l.map wcell).flatten
  ok : M.Ok
def RefDisk (base : Nat) (w : World) (p : Value) (M : DiskM) (F : Nat → Prop) : Prop :=
  ∃ g vs vl, p = .pointer (some ⟨g, 0, none⟩) ∧ RefD base w g vs vl M ∧ F = fun k => k = g ∨ vs.ownBlock = some k ∨ vl.ownBlock = some k
/- what a call makes of a thing with a footprint -/
def Did (P : World → (Nat → Prop) → Prop) (F : Nat → Prop) (w w' : World) : Prop := ∃ F', P w' F' ∧ Chg F w w' ∧ ∀ k, F' k → F k ∨ w.heap.size ≤ k
theorem own_apart {w : World} {base e size n g : Nat} {t : TypeId} {v : Value} {xs : List Value} {cs : Array Value} (h : w.ownsRow base e size v n xs) (r : Row w g t cs) (hne : e ≠ t) : ∀ k, v.ownBlock = some k → k ≠ g := by
  intro k hk e0
  subst e0
  rcases h.2 with ⟨rfl, _⟩ | ⟨g', cap, cur, rfl, _, h3, _⟩
  · cases hk
  · injection hk with hk
    change g' = k at hk
    subst hk
    unfold Row at r
    rw [h3] at r
    injection r with r
    injection r with _ r _
    exact hne r
theorem own_apart2 {w : World} {base base' e e' size size' n n' : Nat} {v v' : Value} {xs xs' : List Value} (h : w.ownsRow base e size v n xs) (h' : w.ownsRow base' e' size' v' n' xs') (hne : e ≠ e') : ∀ k, v.ownBlock = some k → v'.ownBlock ≠ some k := by
  intro k hk hk'
  rcases h'.2 with ⟨rfl, _⟩ | ⟨g', cap, cur, rfl, _, h3, _⟩
  · cases hk'
  · injection hk' with hk'
    change g' = k at hk'
    subst hk'
    exact own_apart h (show Row w g' e' cur from h3) hne g' hk rfl
theorem own_slice_form {w : World} {base e size n : Nat} {v : Value} {xs : List Value} (h : w.ownsRow base e size v n xs) : ∃ A c, v = .slice A n c ∧ n ≤ c := by
  rcases h.2 with ⟨rfl, rfl⟩ | ⟨g, cap, cur, rfl, _, _, h4, _⟩
  · exact ⟨none, 0, rfl, Nat.le_refl _⟩
  · exact ⟨_, cap, rfl, h4⟩
theorem RefD.next {base : Nat} {w w' : World} {g : Nat} {vs vl : Value} {M M' : DiskM} (h : RefD base w g vs vl M) (hs : M'.s = M.s) (hl : M'.l = M.l) (hok : M'.Ok) (r : Row w' g 52 #[vs, vl, .int .i64 M'.f, .bool M'.down]) (c : Chg (fun k => k = g) w w') : RefD base w' g vs vl M' :=
  ⟨h.hb, r, by rw [hs]; exact own_chg h.sec c (own_apart h.sec h.row (by decide)), by rw [hl]; exact own_chg h.loo c (own_apart h.loo h.row (by decide)), hok⟩
theorem RefD.keep {F : Nat → Prop} {base : Nat} {w w' : World} {g : Nat} {vs vl : Value} {M : DiskM} (h : RefD base w g vs vl M) (c : Chg F w w') (hg : ¬ F g) (hs : ∀ k, vs.ownBlock = some k → ¬ F k) (hl : ∀ k, vl.ownBlock = some k → ¬ F k) : RefD base w' g vs vl M :=
  ⟨h.hb, h.row.chg c hg, own_chg h.sec c hs, own_chg h.loo c hl, h.ok⟩
theorem RefD.below {base : Nat} {w w' : World} {g : Nat} {vs vl : Value} {M : DiskM} (h : RefD base w g vs vl M) (c : Below w.heap.size w w') : RefD base w' g vs vl M :=
  h.keep (F := fun _ => False) (Chg.of_below c) id (fun _ _ => id) (fun _ _ => id)
set_option maxHeartbeats 400000 in
theorem refhas_any (base : Nat) (w : World) (g : Nat) (vs vl : Value) (M : DiskM) (i : Int) (h : RefD base w g vs vl M) :
    Calls Try.prog 28 #[.pointer (some ⟨g, 0, none⟩), .int .i64 i] w fun e w' => e = .returned (.bool (M.has i)) ∧ w = w' := by
  have k0 := h.row.get (i := 0) rfl
  obtain ⟨A, c, rfl, _⟩ := own_slice_form h.sec
  have hh := h.ok.hi
  have HU : Hid (M.has i = (decide (0 ≤ i) && decide (i < (M.s.length : Int)))) := Lib.hid rfl
  generalize M.has i = t at *
  generalize M.s.length = n at *
  clear h
  go_enter Try.func28, Try.ntmps28
  go_wp2_with fail
  · have h0 : 0 ≤ i := by assumption
    go_ret
    rw [HU.out, decide_eq_true h0, Bool.true_and]
    exact ⟨rfl, rfl⟩
  · have h0 : i < 0 := by assumption
    go_ret
    rw [HU.out, decide_eq_false (by omega), Bool.false_and]
    exact ⟨rfl, rfl⟩
def ThruPost (w : World) (g : Nat) (vs vl : Value) (b : Bool) (f : Int) (down : Bool) : Ending → World → Prop := fun e w' => e = .returned (.bool b) ∧ Row w' g 52 #[vs, vl, .int .i64 f, .bool down] ∧ Chg (fun k => k = g) w w'
set_option maxHeartbeats 400000 in
theorem refthru_raw (w : World) (g : Nat) (vs vl : Value) (f : Int) (down : Bool) (h : Row w g 52 #[vs, vl, .int .i64 f, .bool down]) (hf : -9223372036854775808 ≤ f ∧ f < 9223372036854775808) :
    Calls Try.prog 29 #[.pointer (some ⟨g, 0, none⟩)] w (ThruPost w g vs vl (!(down || f == 0)) (if down || f == 0 then f else if 0 < f then f - 1 else f) (down || f == 0)) := by
  have k2 : w.cell? ⟨g, 2, none⟩ = some (.int .i64 f) := h.get rfl
  have k3 : w.cell? ⟨g, 3, none⟩ = some (.bool down) := h.get rfl
  have f2 := h.free 2
  have f3 := h.free 3
  have R := Lib.hid h
  clear h
  have hset3 : ∀ u : Value, #[vs, vl, Value.int .i64 f, .bool down].setIfInBounds 3 u = #[vs, vl, Value.int .i64 f, u] := fun _ => rfl
  have hset2 : ∀ u : Value, #[vs, vl, Value.int .i64 f, .bool down].setIfInBounds 2 u = #[vs, vl, u, .bool down] := fun _ => rfl
  have T3 : Hid (∀ K : World → Prop, K (w.setCell ⟨g, 3, none⟩ (.bool true)) → K (w.setCell ⟨g, 3, none⟩ (.bool true))) := Lib.hid fun _ h => h
  have R3 : Hid (Row (w.setCell ⟨g, 3, none⟩ (.bool true)) g 52 #[vs, vl, .int .i64 f, .bool true]) := Lib.hid (R.out.put 3 (.bool true))
  have R2 : Hid (Row (w.setCell ⟨g, 2, none⟩ (.int .i64 (f - 1))) g 52 #[vs, vl, .int .i64 (f - 1), .bool down]) := Lib.hid (R.out.put 2 (.int .i64 (f - 1)))
  have C3 : Hid (Chg (fun k => k = g) w (w.setCell ⟨g, 3, none⟩ (.bool true))) := Lib.hid (Chg.one w g 3 _)
  have C2 : Hid (Chg (fun k => k = g) w (w.setCell ⟨g, 2, none⟩ (.int .i64 (f - 1)))) := Lib.hid (Chg.one w g 2 _)
  clear hset3 hset2 T3
  cases down with
  | true =>
    have e : ∀ x : Bool, (true || x) = true := fun _ => rfl
    rw [e, if_pos rfl]
    clear e
    go_enter Try.func29, Try.ntmps29
    go_wp2_with fail
    go_ret
    exact ⟨rfl, R3.out, C3.out⟩
  | false =>
    rw [Bool.false_or]
    by_cases h0 : f = 0
    · subst h0
      rw [show ((0 : Int) == 0) = true from rfl, if_pos rfl]
      go_enter Try.func29, Try.ntmps29
      go_wp2_with fail
      go_ret
      exact ⟨rfl, R3.out, C3.out⟩
    · have hz : (f == 0) = false := beq_eq_false_iff_ne.2 h0
      have e1 : (if (f == 0) = true then f else if 0 < f then f - 1 else f) = if 0 < f then f - 1 else f := by rw [hz]; rfl
      rw [e1, hz]
      clear e1 h0
      by_cases hp : 0 < f
      · rw [if_pos hp]
        have hd : decide (0 < f) = true := decide_eq_true hp
        go_enter Try.func29, Try.ntmps29
        go_wp2_with fail
        go_ret
        exact ⟨rfl, R2.out, C2.out⟩
      · rw [if_neg hp]
        have hd : decide (0 < f) = false := decide_eq_false hp
        go_enter Try.func29, Try.ntmps29
        go_wp2_with fail
        go_ret
        exact ⟨rfl, R.out, Chg.refl _ _⟩
end Go.Proofs.Yteehpdeeaebliaa
