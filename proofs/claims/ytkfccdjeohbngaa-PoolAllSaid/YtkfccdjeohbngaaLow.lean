/- Numbers as bytes, the lowest first, as the program's lowfirst appends and reads them. -/
import Derived.Test.YtkfccdjeohbngaaLabelRef
import Derived.Test.YtkfccdjeohbngaaSealPrgD
set_option maxRecDepth 4000
namespace Go.Proofs.Ytkfccdjeohbngaa
open Go Go.RowKit
theorem bytesV_apps (p q : List (BitVec 8)) : bytesV (p ++ q) = bytesV p ++ bytesV q := by simp [bytesV]
def two (n : BitVec 16) : List (BitVec 8) := [n.setWidth 8, (n >>> 8).setWidth 8]
def four (v : BitVec 32) : List (BitVec 8) := two (v.setWidth 16) ++ two ((v >>> 16).setWidth 16)
def sv (o : Nat) (q : List (BitVec 8)) : BitVec 16 := (q.getD o 0#8).setWidth 16 ||| ((q.getD (o + 1) 0#8).setWidth 16) <<< 8
def lv (o : Nat) (q : List (BitVec 8)) : BitVec 32 := (sv o q).setWidth 32 ||| ((sv (o + 2) q).setWidth 32) <<< 16
theorem lw16 (x : BitVec 32) : IntKind.u16.wrap (wd x) = hd (x.setWidth 16) := by
  rw [IntKind.wrap_u16]; unfold wd hd; have := x.isLt; rw [BitVec.toNat_setWidth]; omega
theorem lwh (x : BitVec 16) : IntKind.u32.wrap (hd x) = wd (x.setWidth 32) := by
  rw [IntKind.wrap_u32]; unfold wd hd; have := x.isLt; rw [BitVec.toNat_setWidth]; omega
theorem lsh16 (x : BitVec 32) : IntKind.u16.wrap (wd x / (65536 : Int)) = hd ((x >>> 16).setWidth 16) := by rw [show wd x / (65536 : Int) = wd (x >>> 16) from shr_wd x 16, lw16]
attribute [local go_sem] lowb_hd lowb8_hd convb_hd shl8_hd or_hd lw16 lsh16 lwh or_wd shl16_wd
theorem le4 (v : BitVec 32) : le v 4 = [(v.setWidth 16).setWidth 8, ((v.setWidth 16) >>> 8).setWidth 8, ((v >>> 16).setWidth 16).setWidth 8, (((v >>> 16).setWidth 16) >>> 8).setWidth 8] := by
  have e : le v 4 = [(v >>> (8 * 0)).setWidth 8, (v >>> (8 * 1)).setWidth 8, (v >>> (8 * 2)).setWidth 8, (v >>> (8 * 3)).setWidth 8] := rfl
  rw [e]
  have := v.isLt
  have h0 : (v >>> (8 * 0)).setWidth 8 = (v.setWidth 16).setWidth 8 := BitVec.eq_of_toNat_eq (by simp only [BitVec.toNat_setWidth, BitVec.toNat_ushiftRight, Nat.shiftRight_eq_div_pow]; omega)
  have h1 : (v >>> (8 * 1)).setWidth 8 = ((v.setWidth 16) >>> 8).setWidth 8 := BitVec.eq_of_toNat_eq (by simp only [BitVec.toNat_setWidth, BitVec.toNat_ushiftRight, Nat.shiftRight_eq_div_pow]; omega)
  have h2 : (v >>> (8 * 2)).setWidth 8 = ((v >>> 16).setWidth 16).setWidth 8 := BitVec.eq_of_toNat_eq (by simp only [BitVec.toNat_setWidth, BitVec.toNat_ushiftRight, Nat.shiftRight_eq_div_pow]; omega)
  have h3 : (v >>> (8 * 3)).setWidth 8 = (((v >>> 16).setWidth 16) >>> 8).setWidth 8 := BitVec.eq_of_toNat_eq (by simp only [BitVec.toNat_setWidth, BitVec.toNat_ushiftRight, Nat.shiftRight_eq_div_pow]; omega)
  rw [h0, h1, h2, h3]
theorem le2 (d : BitVec 16) : le (d.setWidth 32) 2 = [d.setWidth 8, (d >>> 8).setWidth 8] := by
  have e : le (d.setWidth 32) 2 = [((d.setWidth 32) >>> (8 * 0)).setWidth 8, ((d.setWidth 32) >>> (8 * 1)).setWidth 8] := rfl
  rw [e]
  have := d.isLt
  have h0 : ((d.setWidth 32) >>> (8 * 0)).setWidth 8 = d.setWidth 8 := BitVec.eq_of_toNat_eq (by simp only [BitVec.toNat_setWidth, BitVec.toNat_ushiftRight, Nat.shiftRight_eq_div_pow]; omega)
  have h1 : ((d.setWidth 32) >>> (8 * 1)).setWidth 8 = (d >>> 8).setWidth 8 := BitVec.eq_of_toNat_eq (by simp only [BitVec.toNat_setWidth, BitVec.toNat_ushiftRight, Nat.shiftRight_eq_div_pow]; omega)
  rw [h0, h1]
theorem num2 (x y : BitVec 8) : (num [x, y]).setWidth 16 = x.setWidth 16 ||| (y.setWidth 16) <<< 8 := by
  have e := (halves ((num [x, y]).setWidth 16) x y).1
  refine (e ⟨?_, ?_⟩).symm
  · apply BitVec.eq_of_toNat_eq
    simp only [num, List.foldr_cons, List.foldr_nil, BitVec.toNat_setWidth, BitVec.toNat_add, BitVec.toNat_shiftLeft, Nat.shiftLeft_eq, BitVec.toNat_ofNat]
    have := x.isLt; have := y.isLt; omega
  · apply BitVec.eq_of_toNat_eq
    simp only [num, List.foldr_cons, List.foldr_nil, BitVec.toNat_setWidth, BitVec.toNat_ushiftRight, Nat.shiftRight_eq_div_pow, BitVec.toNat_add, BitVec.toNat_shiftLeft, Nat.shiftLeft_eq, BitVec.toNat_ofNat]
    have := x.isLt; have := y.isLt; omega
theorem num22 (a b : BitVec 16) : (a.setWidth 32 ||| (b.setWidth 32) <<< 16).toNat = b.toNat * 65536 + a.toNat := by
  have ha := a.isLt; have hb := b.isLt
  rw [BitVec.toNat_or, BitVec.toNat_shiftLeft, BitVec.toNat_setWidth, BitVec.toNat_setWidth, Nat.mod_eq_of_lt (show a.toNat < 2 ^ 32 by omega), Nat.mod_eq_of_lt (show b.toNat < 2 ^ 32 by omega),
    Nat.mod_eq_of_lt (show b.toNat <<< 16 < 2 ^ 32 by rw [Nat.shiftLeft_eq]; omega), Nat.or_comm, ← Nat.shiftLeft_add_eq_or_of_lt (show a.toNat < 2 ^ 16 by omega), Nat.shiftLeft_eq]
theorem num2N (x y : BitVec 8) : (x.setWidth 16 ||| (y.setWidth 16) <<< 8).toNat = y.toNat * 256 + x.toNat := by
  rw [← num2]
  simp only [num, List.foldr_cons, List.foldr_nil, BitVec.toNat_setWidth, BitVec.toNat_add, BitVec.toNat_shiftLeft, Nat.shiftLeft_eq, BitVec.toNat_ofNat]
  have := x.isLt; have := y.isLt; omega
theorem num4w (x y z u : BitVec 8) : (x.setWidth 16 ||| (y.setWidth 16) <<< 8).setWidth 32 ||| ((z.setWidth 16 ||| (u.setWidth 16) <<< 8).setWidth 32) <<< 16 = num [x, y, z, u] := by
  apply BitVec.eq_of_toNat_eq
  rw [num22, num2N, num2N]
  simp only [num, List.foldr_cons, List.foldr_nil, BitVec.toNat_setWidth, BitVec.toNat_add, BitVec.toNat_shiftLeft, Nat.shiftLeft_eq, BitVec.toNat_ofNat]
  have := x.isLt; have := y.isLt; have := z.isLt; have := u.isLt; omega
theorem piece4 (q : List (BitVec 8)) (o : Nat) (h : o + 4 ≤ q.length) : (q.drop o).take 4 = [q.getD o 0#8, q.getD (o + 1) 0#8, q.getD (o + 2) 0#8, q.getD (o + 2 + 1) 0#8] := by
  have g : ∀ k, o + k < q.length → q.getD (o + k) 0#8 = (q.drop o).getD k 0#8 := fun k hk => by rw [List.getD_eq_getElem?_getD, List.getD_eq_getElem?_getD, List.getElem?_drop]
  have hl : 4 ≤ (q.drop o).length := by rw [List.length_drop]; omega
  rw [show q.getD o 0#8 = q.getD (o + 0) 0#8 from rfl, show o + 2 + 1 = o + 3 from rfl, g 0 (by omega), g 1 (by omega), g 2 (by omega), g 3 (by omega)]
  match q.drop o, hl with
  | a :: b :: c :: d :: r, _ => rfl
theorem piece2 (q : List (BitVec 8)) (o : Nat) (h : o + 2 ≤ q.length) : (q.drop o).take 2 = [q.getD o 0#8, q.getD (o + 1) 0#8] := by
  have g : ∀ k, o + k < q.length → q.getD (o + k) 0#8 = (q.drop o).getD k 0#8 := fun k hk => by rw [List.getD_eq_getElem?_getD, List.getD_eq_getElem?_getD, List.getElem?_drop]
  have hl : 2 ≤ (q.drop o).length := by rw [List.length_drop]; omega
  rw [show q.getD o 0#8 = q.getD (o + 0) 0#8 from rfl, g 0 (by omega), g 1 (by omega)]
  match q.drop o, hl with
  | a :: b :: r, _ => rfl
theorem four_le (v : BitVec 32) : four v = le v 4 := by rw [le4]; rfl
theorem two_le (d : BitVec 16) : two d = le (d.setWidth 32) 2 := by rw [le2]; rfl
theorem lv_num (q : List (BitVec 8)) (o : Nat) (h : o + 4 ≤ q.length) : lv o q = num ((q.drop o).take 4) := by rw [piece4 q o h]; exact num4w _ _ _ _
theorem sv_num (q : List (BitVec 8)) (o : Nat) (h : o + 2 ≤ q.length) : sv o q = (num ((q.drop o).take 2)).setWidth 16 := by rw [piece2 q o h, num2]; rfl
theorem two_or (x y : BitVec 8) : two (x.setWidth 16 ||| (y.setWidth 16) <<< 8) = [x, y] := by
  obtain ⟨h1, h2⟩ := (halves (x.setWidth 16 ||| (y.setWidth 16) <<< 8) x y).2 rfl
  unfold two; rw [h1, h2]
theorem low16 (a b : BitVec 16) : (a.setWidth 32 ||| (b.setWidth 32) <<< 16).setWidth 16 = a := by
  apply BitVec.eq_of_toNat_eq
  rw [BitVec.toNat_setWidth, num22]
  have := a.isLt; omega
theorem high16 (a b : BitVec 16) : ((a.setWidth 32 ||| (b.setWidth 32) <<< 16) >>> 16).setWidth 16 = b := by
  apply BitVec.eq_of_toNat_eq
  rw [BitVec.toNat_setWidth, BitVec.toNat_ushiftRight, num22, Nat.shiftRight_eq_div_pow]
  have := a.isLt; have := b.isLt; omega
theorem le_lv (q : List (BitVec 8)) (o : Nat) (h : o + 4 ≤ q.length) : le (lv o q) 4 = (q.drop o).take 4 := by
  rw [← four_le, piece4 q o h]
  unfold four lv
  rw [low16, high16]
  unfold sv
  rw [two_or, two_or]; rfl
theorem le_sv (q : List (BitVec 8)) (o : Nat) (h : o + 2 ≤ q.length) : le ((sv o q).setWidth 32) 2 = (q.drop o).take 2 := by
  rw [← two_le, piece2 q o h]
  unfold sv
  rw [two_or]
end Go.Proofs.Ytkfccdjeohbngaa
