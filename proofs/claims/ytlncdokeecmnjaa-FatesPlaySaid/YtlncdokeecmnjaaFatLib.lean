/- What fates takes of the library: IndexFunc, ContainsFunc, Grow, Concat, Clone, of ints; isNone. -/
import Derived.Test.YtlncdokeecmnjaaInts
import Derived.Lib.SliceRun
import Derived.Deep.Cut
set_option maxRecDepth 4000
namespace Go.Proofs.Ytlncdokeecmnjaa
open Go Go.RowKit
def noneB (n : Int) : Bool := decide (n < 0) || decide (16 ≤ n)
theorem isnone_any (n : Int) (w : World) : Calls Try.prog 18 #[.int .i64 n] w fun e w' => e = .returned (.bool (noneB n)) ∧ w = w' := by
  by_cases h : n < 0
  · have hd : decide (n < 0) = true := decide_eq_true h
    have HN : Hid (noneB n = true) := Lib.hid (by unfold noneB; rw [hd]; rfl)
    clear h
    go_enter Try.func18, Try.ntmps18
    go_wp2_with fail
    go_ret
    exact ⟨by rw [HN.out]; rfl, rfl⟩
  · have hd : decide (n < 0) = false := decide_eq_false h
    have HN : Hid (noneB n = decide (16 ≤ n)) := Lib.hid (by unfold noneB; rw [hd]; rfl)
    clear h
    go_enter Try.func18, Try.ntmps18
    go_wp2_with fail
    go_ret
    exact ⟨by rw [HN.out]; rfl, rfl⟩
set_option maxHeartbeats 800000 in
theorem clone_ints (A : Option Addr) (n c : Nat) (l : List Int) (w : World) (h : IntsAt w (.slice A n c) l) (hn : n ≤ 1000000) :
    Calls Try.prog 20 #[.slice A n c] w fun x w' => ∃ v, x = .returned v ∧ w'.ownsRow w.heap.size 3 1 v n (intsV l) ∧ Below w.heap.size w w' := by
  have hln := ints_len h
  have hA := ints_nil h
  have hcap := (ints_cap h).1
  cases A with
  | none =>
    obtain rfl : c = 0 := hA rfl
    obtain rfl : n = 0 := by omega
    obtain rfl : l = [] := List.eq_nil_of_length_eq_zero hln
    have hz : (binOp .eql 25 (.slice none 0 0) (.slice none 0 0)).run Try.prog w = .ok (.bool true) w := Lib.run_eql_slice_nil w _ _ none 0 0 0 0 Try.underlying25
    clear h hln hA hcap hn
    go_enter Try.func20, Try.ntmps20
    go_wp2_with fail
    go_ret
    exact ⟨_, rfl, World.ownsRow_nil _ _ _ _, Below.refl _ _⟩
  | some ad =>
    have hz : (binOp .eql 25 (.slice (some ad) n c) (.slice none 0 0)).run Try.prog w = .ok (.bool false) w := Lib.run_eql_slice_nil w _ _ (some ad) n c 0 0 Try.underlying25
    have HE : Hid ((w.alloc (.cells #[] 3)).ownsRow w.heap.size 3 1 (.slice (some ⟨w.heap.size, 0, none⟩) 0 0) 0 (intsV [])) := Lib.hid ⟨rfl, .inr ⟨w.heap.size, 0, #[], rfl, Nat.le_refl _, heap_alloc_new w _, Nat.le_refl _, by decide, rfl, rfl⟩⟩
    have HB := Lib.hid ((Below.refl w.heap.size w).alloc (Nat.le_refl _) (.cells #[] 3))
    have HI := Lib.hid (h.below HB.out (Nat.le_refl _))
    clear h hA hln hcap
    go_enter Try.func20, Try.ntmps20
    go_wp2_with ((with_reducible refine wpList_plain ?_ ?_); exact rfl; intro KK hKK; refine wp_append_ints (.tmp 5) (.tmp 6) rfl w.heap.size _ 0 [] rfl HE.out (some ad) n c l rfl HI.out (by omega) HB.out.size (fun kv w4 own1 hb4 => hKK _ _ ?_); clear hKK KK; have HO := Lib.hid own1; have HB4 := Lib.hid (HB.out.trans hb4); clear own1 hb4)
    go_ret
    exact ⟨_, rfl, by have := HO.out; rw [Nat.zero_add, List.nil_append] at this; exact this, HB4.out⟩
end Go.Proofs.Ytlncdokeecmnjaa
