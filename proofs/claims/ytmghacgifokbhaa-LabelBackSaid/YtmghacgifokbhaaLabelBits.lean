/- Puts as they lie in memory; the document's bits of puts. -/
import Derived.Test.YtmghacgifokbhaaLabelRefE
import Derived.Test.YtmghacgifokbhaaPuts
set_option maxRecDepth 4000
namespace Go.Proofs.Ytmghacgifokbhaa
open Go Go.RowKit
def bit1 (i : Int) : BitVec 16 := if 0 ≤ i ∧ i < 12 then 1#16 <<< i.toNat else 0#16
def bitsOf (l : List Int) : BitVec 16 := l.foldl (fun v i => v ||| bit1 i) 0#16
theorem bitsOf_take (l : List Int) (k : Nat) (hk : k < l.length) : bitsOf (l.take (k + 1)) = bitsOf (l.take k) ||| bit1 l[k] := by
  unfold bitsOf
  rw [List.take_succ_eq_append_getElem hk, List.foldl_append]; rfl
theorem bit1_eq (i : Int) (h0 : 0 ≤ i) (h1 : i < 12) : IntKind.u16.wrap (2 ^ i.toNat) = hd (bit1 i) := by
  obtain ⟨n, rfl⟩ := Int.eq_ofNat_of_zero_le h0
  have hn : n < 12 := by omega
  have key : ∀ n : Nat, n < 12 → IntKind.u16.wrap ((2 : Int) ^ n) = hd (bit1 (n : Int)) := by decide +kernel
  exact key n hn
attribute [local go_sem] or_hd
set_option maxHeartbeats 800000 in
theorem refbits_any (l : List (Int × List (BitVec 8))) (v : Value) (w : World) (hv : PutsAt w v l) (hl : l.length ≤ 1000000) :
    Calls Try.prog 16 #[v] w fun e w' => e = .returned (.int .u16 (hd (bitsOf (l.map (·.1))))) ∧ w = w' := by
  obtain ⟨A, c, rfl, _, hb, h3⟩ := hv
  have H3 := Lib.hid h3
  have HB := Lib.hid hb
  obtain ⟨n, hn⟩ : ∃ n, l.length = n := ⟨_, rfl⟩
  have HN := Lib.hid hn
  obtain ⟨D, hD⟩ : ∃ D : Nat → BitVec 16, ∀ k, bitsOf ((l.map (·.1)).take k) = D k := ⟨_, fun _ => rfl⟩
  have HD1 : Hid (∀ k x, l[k]? = some x → D (k + 1) = D k ||| bit1 x.1) := Lib.hid fun k x hx => by
    obtain ⟨hk, rfl⟩ := List.getElem?_eq_some_iff.1 hx
    rw [← hD, ← hD, bitsOf_take _ k (by simpa using hk)]; simp
  have HD0 : Hid (D 0 = 0#16) := Lib.hid (by rw [← hD]; rfl)
  rw [show bitsOf (l.map (·.1)) = D n by rw [← hD, ← hn]; congr 1; exact (List.take_of_length_le (by simp)).symm]
  rw [hn] at hl ⊢
  clear hD h3 hn hb
  go_enter Try.func16, Try.ntmps16
  go_wp2_with fail
  go_loopw [3, 4] (fun x i wr => ∃ k : Nat, k ≤ n ∧ i = .int .i64 k ∧ x = .int .u16 (hd (D k)) ∧ wr = w) (fun _ i _ => n - (intOf i).toNat)
  case atStart => exact ⟨0, by omega, rfl, by rw [HD0.out]; rfl, rfl⟩
  case round =>
    obtain ⟨k, hk, rfl, rfl, rfl⟩ := hrel
    by_cases hlt : k < n
    · obtain ⟨⟨i, q⟩, hx⟩ : ∃ x, l[k]? = some x := ⟨_, List.getElem?_eq_getElem (by rw [HN.out]; exact hlt)⟩
      obtain ⟨b, o, rfl, _, h6⟩ := H3.out (by intro e; rw [e] at hx; simp at hx)
      have ci : wr.cell? ⟨b, o + k * 33, none⟩ = some (.int .i64 i) := by have := h6 k _ hx 0 _ rfl; simpa using this
      have hbd := (HB.out (i, q) (List.mem_of_getElem? hx)).2
      have hd1 := HD1.out k _ hx
      have HD2 := Lib.hid hd1
      have hk0 : (0 : Int) ≤ (k : Int) := by omega
      have hk1 : (k : Int) < (n : Int) := by omega
      clear hx h6 hd1
      by_cases h0 : 0 ≤ i
      · by_cases h12 : i < 12
        · have hd3 : decide (0 ≤ i) = true := decide_eq_true h0
          have hd4 : decide (i < 12) = true := decide_eq_true h12
          have hb1 := bit1_eq i h0 h12
          go_wp2_with fail
          exact ⟨⟨k + 1, by omega, by go_num, by rw [HD2.out], trivial⟩, by simp [intOf] <;> omega⟩
        · have hd3 : decide (0 ≤ i) = true := decide_eq_true h0
          have hd4 : decide (i < 12) = false := decide_eq_false h12
          have HZ : Hid (bit1 i = 0#16) := Lib.hid (by unfold bit1; rw [if_neg (fun h => h12 h.2)])
          go_wp2_with fail
          exact ⟨⟨k + 1, by omega, by go_num, by rw [HD2.out, HZ.out, BitVec.or_zero], trivial⟩, by simp [intOf] <;> omega⟩
      · have hd3 : decide (0 ≤ i) = false := decide_eq_false h0
        have HZ : Hid (bit1 i = 0#16) := Lib.hid (by unfold bit1; rw [if_neg (fun h => h0 h.1)])
        go_wp2_with fail
        exact ⟨⟨k + 1, by omega, by go_num, by rw [HD2.out, HZ.out, BitVec.or_zero], trivial⟩, by simp [intOf] <;> omega⟩
    · obtain rfl : k = n := by omega
      go_wp2_with fail
      go_ret
      exact ⟨rfl, rfl⟩
end Go.Proofs.Ytmghacgifokbhaa
