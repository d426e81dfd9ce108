/- The helpers of the program's seal: the check that a sector ought to have, a sealed sector as bytes, and of bytes. -/
import Derived.Test.YtppbgkdkioldbaaSealIf
import Derived.Test.YtppbgkdkioldbaaSt
set_option maxRecDepth 4000
namespace Go.Proofs.Ytppbgkdkioldbaa
open Go Go.RowKit
def sld (r : List (BitVec 8)) (c : BitVec 16) : Array Value := (bs r).push (.int .u16 (hd c))
theorem size_sld (r : List (BitVec 8)) (c : BitVec 16) : (sld r c).size = r.length + 1 := by simp [sld, size_bs]
theorem one_sld (r : List (BitVec 8)) (c : BitVec 16) : (sld r c).all (·.oneCell') = true := by
  have h := one_bs r
  rw [Array.all_eq_true_iff_forall_mem] at *
  intro v hv
  unfold sld at hv
  rcases Array.mem_push.1 hv with h1 | rfl
  · exact h v h1
  · rfl
theorem sld_toList (r : List (BitVec 8)) (c : BitVec 16) : (sld r c).toList = bytesV r ++ [.int .u16 (hd c)] := by simp [sld, bs_toList]
theorem sld_low {r : List (BitVec 8)} (c : BitVec 16) {i : Nat} (hi : i < r.length) {x : Int} (hx : bd (r.getD i 0#8) = x) : (sld r c)[i]? = some (.int .u8 x) := by
  have e : (bs r)[i]? = some (.int .u8 (bd (r.getD i 0#8))) := get_bs r i hi
  rw [← hx, ← e]
  unfold sld
  rw [Array.getElem?_push_lt (by rw [size_bs]; exact hi), Array.getElem?_eq_getElem (by rw [size_bs]; exact hi)]
theorem sld_top {r : List (BitVec 8)} (c : BitVec 16) (hr : r.length = 30) : (sld r c)[30]? = some (.int .u16 (hd c)) := by
  have e : (bs r).size = 30 := by rw [size_bs, hr]
  unfold sld
  rw [← e, Array.getElem?_push_size]
theorem sld_take (r : List (BitVec 8)) (c : BitVec 16) : ((sld r c).toList.drop 0).take (bs r).size = (bs r).toList := by
  rw [sld_toList, List.drop_zero, bs_toList, List.take_left' (by rw [len_bytesV, size_bs])]
theorem sld_set {r : List (BitVec 8)} (hr : r.length = 30) (c d : BitVec 16) : (spl (sld r c).toList 30 [.int .u16 (hd d)]).toArray = sld r d := by
  apply Array.ext'
  rw [sld_toList, sld_toList]
  unfold spl
  rw [List.take_left' (by rw [len_bytesV, hr]), List.drop_of_length_le (by simp [len_bytesV, hr]), List.append_nil]
theorem zeros_sld : (#[.int .u8 0, .int .u8 0, .int .u8 0, .int .u8 0, .int .u8 0, .int .u8 0, .int .u8 0, .int .u8 0, .int .u8 0, .int .u8 0, .int .u8 0, .int .u8 0, .int .u8 0, .int .u8 0, .int .u8 0, .int .u8 0, .int .u8 0, .int .u8 0, .int .u8 0, .int .u8 0, .int .u8 0, .int .u8 0, .int .u8 0, .int .u8 0, .int .u8 0, .int .u8 0, .int .u8 0, .int .u8 0, .int .u8 0, .int .u8 0, .int .u16 0] : Array Value) = sld (zer 30) 0#16 := by rfl
theorem sldm (m : BitVec 8) : (#[.int .u8 (bd m), .int .u8 0, .int .u8 0, .int .u8 0, .int .u8 0, .int .u8 0, .int .u8 0, .int .u8 0, .int .u8 0, .int .u8 0, .int .u8 0, .int .u8 0, .int .u8 0, .int .u8 0, .int .u8 0, .int .u8 0, .int .u8 0, .int .u8 0, .int .u8 0, .int .u8 0, .int .u8 0, .int .u8 0, .int .u8 0, .int .u8 0, .int .u8 0, .int .u8 0, .int .u8 0, .int .u8 0, .int .u8 0, .int .u8 0, .int .u16 0] : Array Value) = sld (m :: zer 29) 0#16 := by rfl
theorem sld_body {m : BitVec 8} {q : List (BitVec 8)} (hq : q.length ≤ 29) (c : BitVec 16) : (spl (sld (m :: zer 29) c).toList 1 (bytesV q)).toArray = sld (pad30 m q) c := by
  apply Array.ext'
  rw [sld_toList, sld_toList]
  obtain ⟨n, hn⟩ : ∃ n, 29 = q.length + n := ⟨29 - q.length, by omega⟩
  have hz : zer (q.length + n) = zer q.length ++ zer n := by unfold zer; rw [List.replicate_append_replicate]
  unfold spl pad30
  rw [hn, Nat.add_sub_cancel_left, hz]
  simp only [bytesV, List.map_cons, List.map_append, List.length_map, List.cons_append, List.take_succ_cons, List.take_zero, Nat.add_comm 1, List.drop_succ_cons]
  rw [List.append_assoc (List.map _ (zer q.length)), List.drop_left' (by simp [zer])]
  simp [zer]
theorem sld_tail {w : World} {g : Nat} {t : TypeId} {r : List (BitVec 8)} {c : BitVec 16} (h : Row w g t (sld r c)) (hr : r.length = 30) : Slice w (.slice (some ⟨g, 1, none⟩) 29 29) (r.drop 1) := by
  have hl : (r.drop 1).length = 29 := by rw [List.length_drop, hr]
  refine ⟨some ⟨g, 1, none⟩, 29, by rw [hl], by rw [hl]; exact Nat.le_refl _, fun _ => ⟨g, 1, rfl, h.lt, fun j x hx => h.get ?_⟩⟩
  rw [List.getElem?_drop] at hx
  have hj := (List.getElem?_eq_some_iff.1 hx).1
  exact sld_low c hj (by rw [List.getD_eq_getElem?_getD, hx]; rfl)
theorem size_sld31 {r : List (BitVec 8)} (hr : r.length = 30) (c : BitVec 16) : (sld r c).size = 31 := by rw [size_sld, hr]
/- the check that stands behind a sector -/
def tailC (b : List (BitVec 8)) : BitVec 16 := (b.getD 30 0#8).setWidth 16 ||| ((b.getD 31 0#8).setWidth 16) <<< 8
theorem halves (c : BitVec 16) (x y : BitVec 8) : (c.setWidth 8 = x ∧ (c >>> 8).setWidth 8 = y) ↔ x.setWidth 16 ||| (y.setWidth 16) <<< 8 = c := by
  constructor
  · rintro ⟨rfl, rfl⟩
    apply BitVec.eq_of_getLsbD_eq
    intro i hi
    simp only [BitVec.getLsbD_or, BitVec.getLsbD_setWidth, BitVec.getLsbD_shiftLeft, BitVec.getLsbD_ushiftRight]
    by_cases h : i < 8
    · simp [h, hi]
    · have h2 : i - 8 < 8 := by omega
      simp [h, hi, h2, show 8 + (i - 8) = i by omega, show i - 8 < 16 by omega]
  · rintro rfl
    constructor
    · apply BitVec.eq_of_getLsbD_eq
      intro i hi
      simp only [BitVec.getLsbD_or, BitVec.getLsbD_setWidth, BitVec.getLsbD_shiftLeft]
      simp [hi, show i < 16 by omega]
    · apply BitVec.eq_of_getLsbD_eq
      intro i hi
      simp only [BitVec.getLsbD_or, BitVec.getLsbD_setWidth, BitVec.getLsbD_shiftLeft, BitVec.getLsbD_ushiftRight]
      simp [hi, show 8 + i < 16 by omega, show i < 16 by omega]
theorem drop30 {b : List (BitVec 8)} (h : b.length = 32) : b.drop 30 = [b.getD 30 0#8, b.getD 31 0#8] := by
  rw [List.drop_eq_getElem_cons (by omega), List.drop_eq_getElem_cons (by omega), List.drop_of_length_le (by omega)]
  simp [List.getD_eq_getElem?_getD, h]
theorem decOk_tail {b : List (BitVec 8)} (h : b.length = 32) : decOk b = (decide (markOf b ≠ 0#8) && decide (tailC b = crcOf (b.take 30))) := by
  rw [decOk_eq h]
  congr 1
  apply decide_eq_decide.2
  rw [drop30 h]
  unfold crcTail tailC
  rw [List.cons.injEq, List.cons.injEq]
  constructor
  · rintro ⟨h1, h2, _⟩; exact (halves _ _ _).1 ⟨h1, h2⟩
  · intro h1
    obtain ⟨h2, h3⟩ := (halves _ _ _).2 h1
    exact ⟨h2, h3, rfl⟩
theorem shl8_hd (x : BitVec 16) : IntKind.u16.wrap (hd x * (256 : Int)) = hd (x <<< 8) := by
  rw [IntKind.wrap_u16]; unfold hd; have := x.isLt; rw [BitVec.toNat_shiftLeft, Nat.shiftLeft_eq]; omega
theorem blk_set (m : BitVec 8) : (#[.int .u8 (bd m), .int .u8 0, .int .u8 0, .int .u8 0, .int .u8 0, .int .u8 0, .int .u8 0, .int .u8 0, .int .u8 0, .int .u8 0, .int .u8 0, .int .u8 0, .int .u8 0, .int .u8 0, .int .u8 0, .int .u8 0, .int .u8 0, .int .u8 0, .int .u8 0, .int .u8 0, .int .u8 0, .int .u8 0, .int .u8 0, .int .u8 0, .int .u8 0, .int .u8 0, .int .u8 0, .int .u8 0, .int .u8 0, .int .u8 0, .int .u8 0, .int .u8 0] : Array Value) = bs ((blk 0#8).set 0 m) := by rfl
theorem put_body {r : List (BitVec 8)} (hr : r.length = 30) {m : BitVec 8} (hm : r.getD 0 0#8 = m) : (spl (bs ((blk 0#8).set 0 m)).toList 1 (bytesV (r.drop 1))).toArray = bs (r ++ [0#8, 0#8]) := by
  rw [spl_bs]
  congr 1
  subst hm
  cases r with
  | nil => simp at hr
  | cons x r =>
    have hl : r.length = 29 := by simpa using hr
    unfold spl
    simp only [List.drop_succ_cons, List.drop_zero, hl]
    rfl
theorem put_30 {r : List (BitVec 8)} (hr : r.length = 30) (u x y : BitVec 8) : (bs (r ++ [u, y])).setIfInBounds 30 (.int .u8 (bd x)) = bs (r ++ [x, y]) := by
  rw [set_bs, List.set_append_right _ _ (by omega), hr]; rfl
theorem put_31 {r : List (BitVec 8)} (hr : r.length = 30) (u x y : BitVec 8) : (bs (r ++ [x, u])).setIfInBounds 31 (.int .u8 (bd y)) = bs (r ++ [x, y]) := by
  rw [set_bs, List.set_append_right _ _ (by omega), hr]; rfl
attribute [local go_sem] lowb_hd lowb8_hd
end Go.Proofs.Ytppbgkdkioldbaa
