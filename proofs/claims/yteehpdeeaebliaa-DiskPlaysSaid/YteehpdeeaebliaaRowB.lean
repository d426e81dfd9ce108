/- A row of blocks (an array of blocks, known whole). -/
import Derived.Test.YteehpdeeaebliaaDiskRefF
namespace Go.Proofs.Yteehpdeeaebliaa
open Go Go.RowKit
def flatV (s : List (List (BitVec 8))) : Array Value := ((s.map bytesV).flatten).toArray
theorem flatV_toList (s : List (List (BitVec 8))) : (flatV s).toList = (s.map bytesV).flatten := rfl
theorem size_flatV {s : List (List (BitVec 8))} (h : ∀ b ∈ s, b.length = 32) : (flatV s).size = s.length * 32 := by
  show ((s.map bytesV).flatten).toArray.size = _
  rw [List.size_toArray, flat_length _ (sec_len h), List.length_map]
section
variable {w : World} {g k : Nat} {t : TypeId} {s : List (List (BitVec 8))} {b : List (BitVec 8)}
theorem rowB_at (h : Row w g t (flatV s)) (hs : ∀ b ∈ s, b.length = 32) (hk : k < s.length) : w.rangeAt g (k * 32) (bs (s.getD k [])).toList := fun j v hv => by
  have hl := hs _ (List.getElem_mem hk)
  have e : s.getD k [] = s[k] := by simp [List.getD_eq_getElem?_getD, hk]
  rw [e, bs_toList] at hv
  have hj : j < 32 := by have := (List.getElem?_eq_some_iff.1 hv).1; rw [len_bytesV, hl] at this; exact this
  rw [h.cell, ← Array.getElem?_toList, flatV_toList, flat_get _ (sec_len hs) k j (bytesV s[k]) (by simp [hk]) hj]
  exact hv
theorem rowB_there (h : Row w g t (flatV s)) (hs : ∀ b ∈ s, b.length = 32) (hk : k < s.length) : w.there g (k * 32) 32 := fun j hj => by
  have hr := rowB_at h hs hk
  have e : s.getD k [] = s[k] := by simp [List.getD_eq_getElem?_getD, hk]
  have hl := hs _ (List.getElem_mem hk)
  refine ⟨?_, h.free _⟩
  rw [hr j (.int .u8 (bd ((s.getD k []).getD j 0))) (by rw [Array.getElem?_toList, get_bs _ j (by rw [e, hl]; exact hj)])]; rfl
theorem rowB_set (h : Row w g t (flatV s)) (hs : ∀ b ∈ s, b.length = 32) (hk : k < s.length) (hb : b.length = 32) : Row (w.setCells g (k * 32) (bs b).toList) g t (flatV (s.set k b)) := by
  have hl := size_flatV hs
  have hm := Nat.mul_le_mul_right 32 (Nat.succ_le_of_lt hk)
  rw [Nat.succ_mul] at hm
  have := row_setCells (bs b).toList (k * 32) w (flatV s) h (by rw [len_bs, hb]; omega)
  have e : (spl (flatV s).toList (k * 32) (bs b).toList).toArray = flatV (s.set k b) := by
    unfold flatV
    rw [List.map_set, bs_toList]
    congr 1
    exact flat_spl (s.map bytesV) (sec_len hs) k (bytesV b) (by simpa using hk) (by rw [len_bytesV, hb])
  rw [e] at this
  exact this
theorem chg_setCells {B : Nat} {a : World} (h : Below B a w) (hB : B ≤ g) (vs : List Value) (o : Nat) : Below B a (w.setCells g o vs) := by
  induction vs generalizing w o with
  | nil => exact h
  | cons v vs ih => exact ih (h.setCell (p := ⟨g, o, none⟩) hB v) (o + 1)
end
end Go.Proofs.Yteehpdeeaebliaa
