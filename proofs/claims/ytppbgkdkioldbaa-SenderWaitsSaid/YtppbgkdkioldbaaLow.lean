/- Numbers as bytes, the lowest first, as the program's lowfirst appends and reads them. -/
import Derived.Test.YtppbgkdkioldbaaLabelRef
import Derived.Test.YtppbgkdkioldbaaSealPrgD
set_option maxRecDepth 4000
namespace Go.Proofs.Ytppbgkdkioldbaa
open Go Go.RowKit
theorem bytesV_apps (p q : List (BitVec 8)) : bytesV (p ++ q) = bytesV p ++ bytesV q := by simp [bytesV]
def two (n : BitVec 16) : List (BitVec 8) := [n.setWidth 8, (n >>> 8).setWidth 8]
def four (v : BitVec 32) : List (BitVec 8) := two (v.setWidth 16) ++ two ((v >>> 16).setWidth 16)
def sv (o : Nat) (q : List (BitVec 8)) : BitVec 16 := (q.getD o 0#8).setWidth 16 ||| ((q.getD (o + 1) 0#8).setWidth 16) <<< 8
def lv (o : Nat) (q : List (BitVec 8)) : BitVec 32 := (sv o q).setWidth 32 ||| ((sv (o + 2) q).setWidth 32) <<< 16
theorem lw16 (x : BitVec 32) : IntKind.u16.wrap (wd x) = hd (x.setWidth 16) := by
  rw [IntKind.wrap_u16]; unfold wd hd; have := x.isLt; rw [BitVec.toNat_setWidth]; omega
theorem lwh (x : BitVec 16) : IntKind.u32.wrap (hd x) = wd (x.setWidth 32) := by
  rw [IntKind.wrap_u32]; unfold wd hd; have := x.isLt; rw [BitVec.toNat_setWidth]; omega
theorem lsh16 (x : BitVec 32) : IntKind.u16.wrap (wd x / (65536 : Int)) = hd ((x >>> 16).setWidth 16) := by rw [show wd x / (65536 : Int) = wd (x >>> 16) from shr_wd x 16, lw16]
attribute [local go_sem] lowb_hd lowb8_hd convb_hd shl8_hd or_hd lw16 lsh16 lwh or_wd shl16_wd
set_option maxHeartbeats 400000 in
theorem appshort_any (base : Nat) (q : List (BitVec 8)) (n : BitVec 16) (v : Value) (w : World) (h : w.ownsRow base 5 1 v q.length (bytesV q)) (hb : base ≤ w.heap.size) (hl : q.length ≤ 1000) :
    Calls Try.prog 37 #[v, .int .u16 (hd n)] w fun e w' => ∃ v', e = .returned v' ∧ w'.ownsRow base 5 1 v' (q.length + 2) (bytesV (q ++ two n)) ∧ Below base w w' := by
  obtain ⟨m, hm⟩ : ∃ m, q.length = m := ⟨_, rfl⟩
  rw [hm] at h hl ⊢
  clear hm
  obtain ⟨C, hC⟩ : ∃ C, (#[.int .u8 (bd (n.setWidth 8)), .int .u8 (bd ((n >>> 8).setWidth 8))] : Array Value) = C := ⟨_, rfl⟩
  have HR4 : Hid (Slice (w.alloc (.cells #[.int .u8 (bd (n.setWidth 8)), .int .u8 (bd ((n >>> 8).setWidth 8))] 5)) (.slice (some ⟨w.heap.size, 0, none⟩) 2 2) (two n)) := Lib.hid (row_slice (Row.fresh w 5 (bs (two n))) (c := 2) (Nat.le_refl _))
  have HO4 := Lib.hid (h.alloc (.cells #[.int .u8 (bd (n.setWidth 8)), .int .u8 (bd ((n >>> 8).setWidth 8))] 5))
  have HB2 := Lib.hid ((Below.refl base w).alloc hb (.cells #[.int .u8 (bd (n.setWidth 8)), .int .u8 (bd ((n >>> 8).setWidth 8))] 5))
  have HB4 := Lib.hid (Nat.le_trans hb HB2.out.size)
  clear h hb hC
  go_enter Try.func37, Try.ntmps37
  go_wp2_with (at_builtin; refine wpList_append_slice rfl (.tmp 5) (.tmp 11) rfl base _ m _ rfl HO4.out (some ⟨w.heap.size, 0, none⟩) 2 2 _ rfl HR4.out (fun h => by cases h) (by omega) HB4.out ?_; intro v6 w6 own6 hb6; rw [← bytesV_apps] at own6; have HO6 := Lib.hid own6; have HB6 := Lib.hid (HB2.out.trans hb6); clear own6 hb6)
  go_ret
  exact ⟨_, rfl, HO6.out, HB6.out⟩
set_option maxHeartbeats 400000 in
theorem applong_any (base : Nat) (q : List (BitVec 8)) (n : BitVec 32) (v : Value) (w : World) (h : w.ownsRow base 5 1 v q.length (bytesV q)) (hb : base ≤ w.heap.size) (hl : q.length ≤ 900) :
    Calls Try.prog 42 #[v, .int .u32 (wd n)] w fun e w' => ∃ v', e = .returned v' ∧ w'.ownsRow base 5 1 v' (q.length + 4) (bytesV (q ++ four n)) ∧ Below base w w' := by
  have C1 := appshort_any base q (n.setWidth 16) v w h hb (by omega)
  have HB := Lib.hid hb
  have HL := Lib.hid hl
  clear h hb hl
  go_enter Try.func42, Try.ntmps42
  go_wp2_with fail
  refine C1.mono ?_
  rintro e w1 ⟨v1, rfl, h1, b1⟩
  clear C1
  have C2 := appshort_any base (q ++ two (n.setWidth 16)) ((n >>> 16).setWidth 16) v1 w1 (by rw [List.length_append]; exact h1) (Nat.le_trans HB.out b1.size) (by rw [List.length_append]; have := HL.out; show q.length + 2 ≤ 1000; omega)
  have B1 := Lib.hid b1
  clear h1 b1
  go_wp2_with fail
  refine C2.mono ?_
  rintro e w2 ⟨v2, rfl, h2, b2⟩
  clear C2
  rw [List.append_assoc, List.length_append] at h2
  have H2 := Lib.hid h2
  have B2 := Lib.hid (B1.out.trans b2)
  clear h2 b2
  go_wp2_with fail
  go_ret
  exact ⟨_, rfl, H2.out, B2.out⟩
theorem le4 (v : BitVec 32) : le v 4 = [(v.setWidth 16).setWidth 8, ((v.setWidth 16) >>> 8).setWidth 8, ((v >>> 16).setWidth 16).setWidth 8, (((v >>> 16).setWidth 16) >>> 8).setWidth 8] := by
  have e : le v 4 = [(v >>> (8 * 0)).setWidth 8, (v >>> (8 * 1)).setWidth 8, (v >>> (8 * 2)).setWidth 8, (v >>> (8 * 3)).setWidth 8] := rfl
  rw [e]
  have := v.isLt
  have h0 : (v >>> (8 * 0)).setWidth 8 = (v.setWidth 16).setWidth 8 := BitVec.eq_of_toNat_eq (by simp only [BitVec.toNat_setWidth, BitVec.toNat_ushiftRight, Nat.shiftRight_eq_div_pow]; omega)
  have h1 : (v >>> (8 * 1)).setWidth 8 = ((v.setWidth 16) >>> 8).setWidth 8 := BitVec.eq_of_toNat_eq (by simp only [BitVec.toNat_setWidth, BitVec.toNat_ushiftRight, Nat.shiftRight_eq_div_pow]; omega)
  have h2 : (v >>> (8 * 2)).setWidth 8 = ((v >>> 16).setWidth 16).setWidth 8 := BitVec.eq_of_toNat_eq (by simp only [BitVec.toNat_setWidth, BitVec.toNat_ushiftRight, Nat.shiftRight_eq_div_pow]; omega)
  have h3 : (v >>> (8 * 3)).setWidth 8 = (((v >>> 16).setWidth 16) >>> 8).setWidth 8 := BitVec.eq_of_toNat_eq (by simp only [BitVec.toNat_setWidth, BitVec.toNat_ushiftRight, Nat.shiftRight_eq_div_pow]; omega)
  rw [h0, h1, h2, h3]
theorem le2 (d : BitVec 16) : le (d.setWidth 32) 2 = [d.setWidth 8, (d >>> 8).setWidth 8] := by
  have e : le (d.setWidth 32) 2 = [((d.setWidth 32) >>> (8 * 0)).setWidth 8, ((d.setWidth 32) >>> (8 * 1)).setWidth 8] := rfl
  rw [e]
  have := d.isLt
  have h0 : ((d.setWidth 32) >>> (8 * 0)).setWidth 8 = d.setWidth 8 := BitVec.eq_of_toNat_eq (by simp only [BitVec.toNat_setWidth, BitVec.toNat_ushiftRight, Nat.shiftRight_eq_div_pow]; omega)
  have h1 : ((d.setWidth 32) >>> (8 * 1)).setWidth 8 = (d >>> 8).setWidth 8 := BitVec.eq_of_toNat_eq (by simp only [BitVec.toNat_setWidth, BitVec.toNat_ushiftRight, Nat.shiftRight_eq_div_pow]; omega)
  rw [h0, h1]
theorem num2 (x y : BitVec 8) : (num [x, y]).setWidth 16 = x.setWidth 16 ||| (y.setWidth 16) <<< 8 := by
  have e := (halves ((num [x, y]).setWidth 16) x y).1
  refine (e ⟨?_, ?_⟩).symm
  · apply BitVec.eq_of_toNat_eq
    simp only [num, List.foldr_cons, List.foldr_nil, BitVec.toNat_setWidth, BitVec.toNat_add, BitVec.toNat_shiftLeft, Nat.shiftLeft_eq, BitVec.toNat_ofNat]
    have := x.isLt; have := y.isLt; omega
  · apply BitVec.eq_of_toNat_eq
    simp only [num, List.foldr_cons, List.foldr_nil, BitVec.toNat_setWidth, BitVec.toNat_ushiftRight, Nat.shiftRight_eq_div_pow, BitVec.toNat_add, BitVec.toNat_shiftLeft, Nat.shiftLeft_eq, BitVec.toNat_ofNat]
    have := x.isLt; have := y.isLt; omega
theorem num22 (a b : BitVec 16) : (a.setWidth 32 ||| (b.setWidth 32) <<< 16).toNat = b.toNat * 65536 + a.toNat := by
  have ha := a.isLt; have hb := b.isLt
  rw [BitVec.toNat_or, BitVec.toNat_shiftLeft, BitVec.toNat_setWidth, BitVec.toNat_setWidth, Nat.mod_eq_of_lt (show a.toNat < 2 ^ 32 by omega), Nat.mod_eq_of_lt (show b.toNat < 2 ^ 32 by omega),
    Nat.mod_eq_of_lt (show b.toNat <<< 16 < 2 ^ 32 by rw [Nat.shiftLeft_eq]; omega), Nat.or_comm, ← Nat.shiftLeft_add_eq_or_of_lt (show a.toNat < 2 ^ 16 by omega), Nat.shiftLeft_eq]
theorem num2N (x y : BitVec 8) : (x.setWidth 16 ||| (y.setWidth 16) <<< 8).toNat = y.toNat * 256 + x.toNat := by
  rw [← num2]
  simp only [num, List.foldr_cons, List.foldr_nil, BitVec.toNat_setWidth, BitVec.toNat_add, BitVec.toNat_shiftLeft, Nat.shiftLeft_eq, BitVec.toNat_ofNat]
  have := x.isLt; have := y.isLt; omega
theorem num4w (x y z u : BitVec 8) : (x.setWidth 16 ||| (y.setWidth 16) <<< 8).setWidth 32 ||| ((z.setWidth 16 ||| (u.setWidth 16) <<< 8).setWidth 32) <<< 16 = num [x, y, z, u] := by
  apply BitVec.eq_of_toNat_eq
  rw [num22, num2N, num2N]
  simp only [num, List.foldr_cons, List.foldr_nil, BitVec.toNat_setWidth, BitVec.toNat_add, BitVec.toNat_shiftLeft, Nat.shiftLeft_eq, BitVec.toNat_ofNat]
  have := x.isLt; have := y.isLt; have := z.isLt; have := u.isLt; omega
theorem piece4 (q : List (BitVec 8)) (o : Nat) (h : o + 4 ≤ q.length) : (q.drop o).take 4 = [q.getD o 0#8, q.getD (o + 1) 0#8, q.getD (o + 2) 0#8, q.getD (o + 2 + 1) 0#8] := by
  have g : ∀ k, o + k < q.length → q.getD (o + k) 0#8 = (q.drop o).getD k 0#8 := fun k hk => by rw [List.getD_eq_getElem?_getD, List.getD_eq_getElem?_getD, List.getElem?_drop]
  have hl : 4 ≤ (q.drop o).length := by rw [List.length_drop]; omega
  rw [show q.getD o 0#8 = q.getD (o + 0) 0#8 from rfl, show o + 2 + 1 = o + 3 from rfl, g 0 (by omega), g 1 (by omega), g 2 (by omega), g 3 (by omega)]
  match q.drop o, hl with
  | a :: b :: c :: d :: r, _ => rfl
theorem piece2 (q : List (BitVec 8)) (o : Nat) (h : o + 2 ≤ q.length) : (q.drop o).take 2 = [q.getD o 0#8, q.getD (o + 1) 0#8] := by
  have g : ∀ k, o + k < q.length → q.getD (o + k) 0#8 = (q.drop o).getD k 0#8 := fun k hk => by rw [List.getD_eq_getElem?_getD, List.getD_eq_getElem?_getD, List.getElem?_drop]
  have hl : 2 ≤ (q.drop o).length := by rw [List.length_drop]; omega
  rw [show q.getD o 0#8 = q.getD (o + 0) 0#8 from rfl, g 0 (by omega), g 1 (by omega)]
  match q.drop o, hl with
  | a :: b :: r, _ => rfl
theorem four_le (v : BitVec 32) : four v = le v 4 := by rw [le4]; rfl
theorem two_le (d : BitVec 16) : two d = le (d.setWidth 32) 2 := by rw [le2]; rfl
theorem lv_num (q : List (BitVec 8)) (o : Nat) (h : o + 4 ≤ q.length) : lv o q = num ((q.drop o).take 4) := by rw [piece4 q o h]; exact num4w _ _ _ _
theorem sv_num (q : List (BitVec 8)) (o : Nat) (h : o + 2 ≤ q.length) : sv o q = (num ((q.drop o).take 2)).setWidth 16 := by rw [piece2 q o h, num2]; rfl
theorem two_or (x y : BitVec 8) : two (x.setWidth 16 ||| (y.setWidth 16) <<< 8) = [x, y] := by
  obtain ⟨h1, h2⟩ := (halves (x.setWidth 16 ||| (y.setWidth 16) <<< 8) x y).2 rfl
  unfold two; rw [h1, h2]
theorem low16 (a b : BitVec 16) : (a.setWidth 32 ||| (b.setWidth 32) <<< 16).setWidth 16 = a := by
  apply BitVec.eq_of_toNat_eq
  rw [BitVec.toNat_setWidth, num22]
  have := a.isLt; omega
theorem high16 (a b : BitVec 16) : ((a.setWidth 32 ||| (b.setWidth 32) <<< 16) >>> 16).setWidth 16 = b := by
  apply BitVec.eq_of_toNat_eq
  rw [BitVec.toNat_setWidth, BitVec.toNat_ushiftRight, num22, Nat.shiftRight_eq_div_pow]
  have := a.isLt; have := b.isLt; omega
theorem le_lv (q : List (BitVec 8)) (o : Nat) (h : o + 4 ≤ q.length) : le (lv o q) 4 = (q.drop o).take 4 := by
  rw [← four_le, piece4 q o h]
  unfold four lv
  rw [low16, high16]
  unfold sv
  rw [two_or, two_or]; rfl
theorem le_sv (q : List (BitVec 8)) (o : Nat) (h : o + 2 ≤ q.length) : le ((sv o q).setWidth 32) 2 = (q.drop o).take 2 := by
  rw [← two_le, piece2 q o h]
  unfold sv
  rw [two_or]
end Go.Proofs.Ytppbgkdkioldbaa
