/- IndexFunc, ContainsFunc of ints, with isNone. -/
import Derived.Test.YtlncdokeecmnjaaFatLib
set_option maxRecDepth 4000
namespace Go.Proofs.Ytlncdokeecmnjaa
open Go Go.RowKit
def fnNone : Value := .func (.func 18) #[] #[]
def anyNone (l : List Int) : Bool := l.any noneB
set_option maxHeartbeats 800000 in
theorem index_any (A : Option Addr) (n c : Nat) (l : List Int) (w : World) (h : IntsAt w (.slice A n c) l) :
    Calls Try.prog 21 #[.slice A n c, fnNone] w fun e w' => ∃ r : Int, e = .returned (.int .i64 r) ∧ decide (0 ≤ r) = anyNone l ∧ w = w' := by
  have hln := ints_len h
  have hmx := (ints_cap h).2
  have hn' : n ≤ 9223372036854775807 := by unfold maxLen at hmx; omega
  have HF := Lib.hid (fun k (hk : k < l.length) => ints_get h hk)
  obtain ⟨G, hG⟩ : ∃ G, anyNone l = G := ⟨_, rfl⟩
  have HALL : Hid ((∀ j < n, ∀ x, l[j]? = some x → noneB x = false) → G = false) := Lib.hid fun h => by
    rw [← hG]
    unfold anyNone
    rw [List.any_eq_false]
    intro x hx
    obtain ⟨j, hj, e⟩ := List.getElem_of_mem hx
    have := h j (by omega) x (by rw [List.getElem?_eq_getElem hj, e])
    simp [this]
  have HNO : Hid (∀ (k : Nat) (x : Int), l[k]? = some x → noneB x = true → G = true) := Lib.hid fun k x hx h => by
    rw [← hG]
    unfold anyNone
    exact List.any_eq_true.2 ⟨x, List.mem_of_getElem? hx, h⟩
  have HL := Lib.hid hln
  rw [hG]
  clear h hG hln hmx
  unfold fnNone
  go_enter Try.func21, Try.ntmps21
  go_wp2_with fail
  go_loopw [8] (fun i wr => ∃ k : Nat, k ≤ n ∧ i = .int .i64 k ∧ Hid (∀ j < k, ∀ x, l[j]? = some x → noneB x = false) ∧ w = wr) (fun i _ => n - (intOf i).toNat)
  case atStart => exact ⟨0, by omega, rfl, Lib.hid fun j hj => by omega, rfl⟩
  case round =>
    obtain ⟨k, hk, rfl, hE, rfl⟩ := hrel
    by_cases hlt : k < n
    · obtain ⟨b, o, x, hx, rfl, hb, hc, _⟩ := HF.out k (by rw [HL.out]; exact hlt)
      have HX := Lib.hid hx
      have hk0 : (0 : Int) ≤ (k : Int) := by omega
      have hk1 : (k : Int) < (n : Int) := by omega
      obtain ⟨O, hO⟩ : ∃ O, o + k = O := ⟨_, rfl⟩
      rw [hO] at hc
      clear hx
      have CI := isnone_any x w
      cases hnx : noneB x with
      | true =>
        rw [hnx] at CI
        have hG := HNO.out k x HX.out hnx
        have HG := Lib.hid hG
        clear hG hnx
        go_wp2_with fail
        refine CI.mono ?_
        rintro e w2 ⟨rfl, rfl⟩
        clear CI
        go_wp2_with fail
        go_ret
        exact ⟨_, rfl, by rw [HG.out]; simp, rfl⟩
      | false =>
        rw [hnx] at CI
        have HNX := Lib.hid hnx
        clear hnx
        go_wp2_with fail
        refine CI.mono ?_
        rintro e w2 ⟨rfl, rfl⟩
        clear CI
        go_wp2_with fail
        refine ⟨⟨k + 1, by omega, by go_num, Lib.hid fun j hj y hy => ?_, by first | rfl | trivial⟩, by simp [intOf]; omega⟩
        by_cases hjk : j = k
        · subst hjk
          have := HX.out.symm.trans hy
          injection this with this
          subst this
          exact HNX.out
        · exact hE.out j (by omega) y hy
    · obtain rfl : k = n := by omega
      have hG := HALL.out hE.out
      have HG := Lib.hid hG
      clear hG
      go_wp2_with fail
      go_ret
      exact ⟨_, rfl, by rw [HG.out]; rfl, rfl⟩
theorem contains_any (A : Option Addr) (n c : Nat) (l : List Int) (w : World) (h : IntsAt w (.slice A n c) l) :
    Calls Try.prog 17 #[.slice A n c, fnNone] w fun e w' => e = .returned (.bool (anyNone l)) ∧ w = w' := by
  have C := index_any A n c l w h
  clear h
  unfold fnNone at C ⊢
  go_enter Try.func17, Try.ntmps17
  go_wp2_with fail
  refine C.mono ?_
  rintro e w2 ⟨r, rfl, hr, rfl⟩
  go_wp2_with fail
  go_ret
  first | exact ⟨rfl, rfl⟩ | exact ⟨by rw [← hr]; rfl, rfl⟩
end Go.Proofs.Ytlncdokeecmnjaa
