/- Whether two rows of bytes are alike: what Same answers. -/
import Derived.Test.YtnfceejmkcohnaaDoorTagSpec
import Derived.Test.YtnfceejmkcohnaaDoorKeep
import Derived.Test.YtnfceejmkcohnaaDoorPartsG
namespace Go.Proofs.YtnfceejmkcohnaaDoor
open Go Go.RowKit
attribute [local go_sem] xor_bd or_bd
theorem byteat_any (q : List (BitVec 8)) (v : Value) (i : Nat) (w : World) (hs : Slice w v q) :
    Calls Tryd.prog 18 #[v, .int .i64 (i : Int)] w fun e w' => e = .returned (.int .u8 (bd (q.getD i 0))) ∧ w = w' := by
  obtain ⟨A, c, rfl, hc, h3⟩ := hs
  by_cases hlt : i < q.length
  · obtain ⟨b, o, rfl, _, h6⟩ := h3 (by intro e; subst e; simp at hlt)
    have hx := h6 i q[i] (List.getElem?_eq_getElem hlt)
    have e : q.getD i 0 = q[i] := by simp [List.getD_eq_getElem?_getD, hlt]
    rw [e]
    clear h6 h3 e
    generalize q[i] = x at *
    generalize q.length = n at *
    go_enter Tryd.func18, Tryd.ntmps18
    go_wp2
    go_ret
    exact ⟨rfl, rfl⟩
  · have e : q.getD i 0 = 0 := by simp [List.getD_eq_getElem?_getD, List.getElem?_eq_none (Nat.le_of_not_lt hlt)]
    rw [e]
    clear h3 e
    generalize q.length = n at *
    go_enter Tryd.func18, Tryd.ntmps18
    go_wp2
    go_ret
    exact ⟨rfl, rfl⟩
set_option maxHeartbeats 400000 in
theorem same_any (p q : List (BitVec 8)) (va vb : Value) (w : World) (hp : Slice w va p) (hq : Slice w vb q) (hpl : p.length ≤ 1000000) (hql : q.length ≤ 1000000) :
    Calls Tryd.prog 12 #[va, vb] w fun e w' => e = .returned (.bool (decide (p = q))) ∧ w = w' := by
  have HP := Lib.hid hp
  have HQ := Lib.hid hq
  obtain ⟨A, c, rfl, _⟩ := hp
  obtain ⟨A', c', rfl, _⟩ := hq
  have HD : Hid ((bd (dif p q (max p.length q.length)) == 0) = decide (p = q)) := Lib.hid (dif_bool p q (max p.length q.length) (Nat.le_max_left _ _))
  have HU : Hid (∀ k, dif p q (k + 1) = dif p q k ||| (p.getD k 0 ^^^ q.getD k 0)) := Lib.hid fun _ => rfl
  have H0 : Hid (dif p q 0 = if p.length = q.length then 0 else 1) := Lib.hid rfl
  have HE : Hid (∀ b, ((p.length : Int) != (q.length : Int)) = b → Value.int .u8 (if b then 1 else 0) = Value.int .u8 (bd (dif p q 0))) := Lib.hid fun b hb => by
    rw [H0.out]
    cases b with
    | true =>
      have hne : p.length ≠ q.length := fun e => by rw [e] at hb; simp at hb
      simp only [if_true, if_neg hne]; rfl
    | false =>
      have h : (p.length : Int) = (q.length : Int) := by simpa using hb
      have h' : p.length = q.length := by omega
      simp only [if_pos h']; rfl
  clear H0
  generalize dif p q = D at *
  go_enter Tryd.func12, Tryd.ntmps12
  go_wp2_with fail
  all_goals
    go_loopw [5, 17] (fun d i wr => ∃ k : Nat, k ≤ max p.length q.length ∧ i = .int .i64 k ∧ d = .int .u8 (bd (D k)) ∧ wr = w) (fun _ i _ => max p.length q.length - (intOf i).toNat)
    case atStart =>
      rename_i hpq _ _
      refine ⟨0, by omega, rfl, ?_, rfl⟩
      first | exact HE.out true hpq | exact HE.out false (by simpa using hpq)
    case round =>
      obtain ⟨k, hk, rfl, rfl, rfl⟩ := hrel
      by_cases hlt : k < max p.length q.length
      · have hu := Lib.hid (HU.out k)
        have c1 := byteat_any p _ k wr HP.out
        have c2 := byteat_any q _ k wr HQ.out
        generalize p.getD k 0 = x at *
        generalize q.getD k 0 = y at *
        have C1 := Lib.hid c1
        have C2 := Lib.hid c2
        clear c1 c2
        go_wp2_with fail
        refine C1.out.mono ?_
        rintro e w1 ⟨rfl, rfl⟩
        go_wp2_with fail
        refine C2.out.mono ?_
        rintro e w1 ⟨rfl, rfl⟩
        go_wp2_with fail
        go_roundw
        case rel => exact ⟨k + 1, by omega, by go_num, by rw [hu.out], trivial⟩
        case measure => simp [intOf]; omega
      · obtain rfl : k = max p.length q.length := by omega
        go_wp2_with fail
        go_ret
        exact ⟨congrArg (fun b => Ending.returned (.bool b)) HD.out, rfl⟩
end Go.Proofs.YtnfceejmkcohnaaDoor
