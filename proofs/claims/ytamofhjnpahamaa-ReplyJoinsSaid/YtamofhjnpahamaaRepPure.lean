/- Replies and their bytes: each is told by the other; the program's Decode of any bytes. -/
import Derived.Test.YtamofhjnpahamaaRepDec
set_option maxRecDepth 4000
namespace Go.Proofs.Ytamofhjnpahamaa
open Go Go.RowKit
theorem len_r4 (v : BitVec 32) : (le v 4).length = 4 := by simp [le]
theorem lv_four (v : BitVec 32) (r : List (BitVec 8)) : lv 0 (four v ++ r) = v := by
  rw [four_le, lv_num _ 0 (by rw [List.length_append, len_r4]; omega), List.drop_zero, List.take_left' (len_r4 v), num_le4]
theorem bd_byteZ {z : Int} (h0 : 0 ≤ z) (h1 : z ≤ 255) : bd (byteZ z) = z := by
  unfold bd byteZ; rw [BitVec.toNat_ofInt]; omega
theorem wd_wordZ {z : Int} (h0 : 0 ≤ z) (h1 : z ≤ 2147483647) : wd (wordZ z) = z := by
  unfold wd wordZ; rw [BitVec.toNat_ofInt]; omega
theorem rep_back {i e : Int} {d : List (BitVec 8)} (h : mayR i e d.length = true) : rpI (repB i e d) = i ∧ rpE (repB i e d) = e ∧ rpD (repB i e d) = d ∧ rpOk (repB i e d) = true := by
  obtain ⟨h0, h1, h2, h3, _⟩ := mayR_of h
  have a1 : rpI (repB i e d) = i := by
    unfold rpI repB repH
    rw [List.append_assoc, List.append_assoc, lv_four, wd_wordZ h0 h1]
  have a2 : rpE (repB i e d) = e := by
    unfold rpE
    rw [show (repB i e d).getD 4 0#8 = byteZ e from rfl, bd_byteZ h2 h3]
  have a3 : rpD (repB i e d) = d := by
    unfold rpD
    rw [show (repB i e d).drop 6 = d ++ two (crcOf (repH i e d)) from rfl, length_repB, show 8 + d.length - 8 = d.length by omega, List.take_left]
  refine ⟨a1, a2, a3, ?_⟩
  unfold rpOk
  rw [a1, a2, a3, length_repB, show 8 + d.length - 8 = d.length by omega, h]
  simp
def reI (q : List (BitVec 8)) : Int := if rpOk q then rpI q else 0
def reE (q : List (BitVec 8)) : Int := if rpOk q then rpE q else 0
def reD (q : List (BitVec 8)) : List (BitVec 8) := if rpOk q then rpD q else []
def reG (q : List (BitVec 8)) : Int := if rpOk q then 0 else 11
theorem rp_of {q : List (BitVec 8)} (h : rpOk q = true) : 8 ≤ q.length ∧ mayR (rpI q) (rpE q) (q.length - 8) = true ∧ repB (rpI q) (rpE q) (rpD q) = q := by
  unfold rpOk at h
  simp only [Bool.and_eq_true, decide_eq_true_eq] at h
  exact ⟨h.1.1, h.1.2, h.2⟩
theorem length_rpD {q : List (BitVec 8)} : (rpD q).length = q.length - 8 := by unfold rpD; rw [List.length_take, List.length_drop]; omega
theorem repdec_any (A : Option Addr) (n cc : Nat) (q : List (BitVec 8)) (w : World) (hs : Slice w (.slice A n cc) q) (hq : q.length = n) (hn : n ≤ 999999990) :
    Calls Try.prog 15 #[.slice A n cc] w fun e w' => ∃ v, e = .returned (.tuple #[.agg (repCells (reI q) (reE q) v), .int .i64 (reG q)]) ∧ w'.ownsRow w.heap.size 5 1 v (reD q).length (bytesV (reD q)) ∧ Below w.heap.size w w' := by
  have bad : rpOk q = false → ∀ (e : Ending) (w' : World), e = .returned (.tuple #[.agg (repCells 0 0 (.slice none 0 0)), .int .i64 11]) ∧ Below w.heap.size w w' → ∃ v, e = .returned (.tuple #[.agg (repCells (reI q) (reE q) v), .int .i64 (reG q)]) ∧ w'.ownsRow w.heap.size 5 1 v (reD q).length (bytesV (reD q)) ∧ Below w.heap.size w w' := by
    rintro h e w' ⟨rfl, hb⟩
    have h1 : reI q = 0 := by unfold reI; rw [h]; rfl
    have h2 : reE q = 0 := by unfold reE; rw [h]; rfl
    have h3 : reD q = [] := by unfold reD; rw [h]; rfl
    have h4 : reG q = 11 := by unfold reG; rw [h]; rfl
    rw [h1, h2, h3, h4]
    exact ⟨_, rfl, World.ownsRow_nil _ _ _ _, hb⟩
  by_cases h8 : n < 8
  · have hr : rpOk q = false := by unfold rpOk; rw [decide_eq_false (by omega)]; rfl
    exact (repdec_len A n cc w h8).mono fun e w' h => bad hr e w' h
  obtain ⟨m, rfl⟩ : ∃ m, n = m + 8 := ⟨n - 8, by omega⟩
  obtain ⟨g, o, rfl, hB, hc⟩ := slice_bat hs (by omega)
  rw [hq] at hc
  have hm8 : q.length - 8 = m := by omega
  cases hm : mayR (rpI q) (rpE q) m with
  | false =>
    have hr : rpOk q = false := by unfold rpOk; rw [hm8, hm]; simp
    exact (repdec_no g o cc m q w hB hq hc (by omega) hm).mono fun e w' h => bad hr e w' h
  | true =>
    by_cases hb : repB (rpI q) (rpE q) (rpD q) = q
    · have hr : rpOk q = true := by unfold rpOk; rw [hm8, hm, decide_eq_true hb, decide_eq_true (by omega)]; rfl
      refine (repdec_good g o cc m q w hB hq hc (by omega) hm hb).mono ?_
      rintro e w' ⟨v, rfl, ho, hbb⟩
      have h1 : reI q = rpI q := by unfold reI; rw [hr]; rfl
      have h2 : reE q = rpE q := by unfold reE; rw [hr]; rfl
      have h3 : reD q = rpD q := by unfold reD; rw [hr]; rfl
      have h4 : reG q = 0 := by unfold reG; rw [hr]; rfl
      rw [h1, h2, h3, h4, length_rpD, hm8]
      exact ⟨v, rfl, ho, hbb⟩
    · have hr : rpOk q = false := by unfold rpOk; rw [decide_eq_false hb, Bool.and_false]
      exact (repdec_other g o cc m q w hB hq hc (by omega) hm hb).mono fun e w' h => bad hr e w' h
theorem re_back {i e : Int} {d : List (BitVec 8)} (h : mayR i e d.length = true) : reI (repB i e d) = i ∧ reE (repB i e d) = e ∧ reD (repB i e d) = d ∧ reG (repB i e d) = 0 := by
  obtain ⟨a1, a2, a3, a4⟩ := rep_back h
  refine ⟨?_, ?_, ?_, ?_⟩
  · unfold reI; rw [a4, a1]; rfl
  · unfold reE; rw [a4, a2]; rfl
  · unfold reD; rw [a4, a3]; rfl
  · unfold reG; rw [a4]; rfl
end Go.Proofs.Ytamofhjnpahamaa
