/- Merged: LabelSpec LabelRef Low PktSpec LabelRefE LabelBits LabBits SndSpec LowC. -/
import Derived.Deep.Cut
import Derived.Deep.AppendLies
import Derived.Test.YtppbgkdkioldbaaMSeal0
import Derived.Test.YtppbgkdkioldbaaMGen0
/- A label as plain data: its bytes, what bytes tell, which is later, the bits of numbers. No program is named here. -/
set_option maxRecDepth 4000
namespace Go.Proofs.Ytppbgkdkioldbaa
def le (v : BitVec 32) (n : Nat) : List (BitVec 8) := (List.range n).map fun i => (v >>> (8 * i)).setWidth 8
def num (b : List (BitVec 8)) : BitVec 32 := b.foldr (fun x v => (v <<< 8) + x.setWidth 32) 0#32
structure Lab where
  e : BitVec 32
  s : BitVec 32
  n : BitVec 32
  d : BitVec 16
  l : BitVec 16
deriving DecidableEq
def labBody (L : Lab) : List (BitVec 8) := le L.e 4 ++ le L.s 4 ++ le L.n 4 ++ le (L.d.setWidth 32) 2 ++ le (L.l.setWidth 32) 2
def labB (L : Lab) : List (BitVec 8) := sealedB 0x4c#8 (labBody L)
def labOf (b : List (BitVec 8)) : Lab := ⟨num (b.take 4), num ((b.drop 4).take 4), num ((b.drop 8).take 4), (num ((b.drop 12).take 2)).setWidth 16, (num ((b.drop 14).take 2)).setWidth 16⟩
def lab0 : Lab := ⟨0#32, 0#32, 0#32, 0#16, 0#16⟩
def labIs (b : List (BitVec 8)) : Bool := decOk b && decide (labB (labOf (bodyOf b)) = b)
def decLab (b : List (BitVec 8)) : Lab := if b = List.replicate 32 0#8 then lab0 else if labIs b then labOf (bodyOf b) else lab0
def decLabE (b : List (BitVec 8)) : Int := if b = List.replicate 32 0#8 then 0 else if labIs b then 0 else 11
def laterB (e s t n : BitVec 32) : Bool := decide (t.toNat < e.toNat) || (decide (e = t) && decide (n.toNat < s.toNat))
theorem length_le (v : BitVec 32) (n : Nat) : (le v n).length = n := by simp [le]
theorem le_succ (v : BitVec 32) (n : Nat) : le v (n + 1) = le v n ++ [(v >>> (8 * n)).setWidth 8] := by simp [le, List.range_succ]
theorem length_labBody (L : Lab) : (labBody L).length = 16 := by simp [labBody, length_le]
theorem length_labB (L : Lab) : (labB L).length = 32 := length_sealedB (by rw [length_labBody]; decide)
theorem num4 (a b c d : BitVec 8) : num [a, b, c, d] = (((((d.setWidth 32) <<< 8) + c.setWidth 32) <<< 8) + b.setWidth 32) <<< 8 + a.setWidth 32 := by
  simp [num]
theorem num_le4 (v : BitVec 32) : num (le v 4) = v := by
  have e : le v 4 = [v.setWidth 8, (v >>> 8).setWidth 8, (v >>> 16).setWidth 8, (v >>> 24).setWidth 8] := by simp [le, List.range_succ]
  rw [e, num4]
  apply BitVec.eq_of_toNat_eq
  simp only [BitVec.toNat_add, BitVec.toNat_shiftLeft, BitVec.toNat_setWidth, BitVec.toNat_ushiftRight, Nat.shiftLeft_eq, Nat.shiftRight_eq_div_pow]
  have := v.isLt
  omega
theorem num_le2 (d : BitVec 16) : (num (le (d.setWidth 32) 2)).setWidth 16 = d := by
  have e : le (d.setWidth 32) 2 = [(d.setWidth 32).setWidth 8, (d.setWidth 32 >>> 8).setWidth 8] := by simp [le, List.range_succ]
  rw [e]
  apply BitVec.eq_of_toNat_eq
  simp only [num, List.foldr_cons, List.foldr_nil, BitVec.toNat_add, BitVec.toNat_shiftLeft, BitVec.toNat_setWidth, BitVec.toNat_ushiftRight, Nat.shiftLeft_eq, Nat.shiftRight_eq_div_pow, BitVec.toNat_ofNat]
  have := d.isLt
  omega
theorem labOf_pad (L : Lab) (r : List (BitVec 8)) : labOf (labBody L ++ r) = L := by
  have h4 : ∀ (v : BitVec 32) (x : List (BitVec 8)), (le v 4 ++ x).take 4 = le v 4 := fun v x => by rw [List.take_append_of_le_length (by rw [length_le]; exact Nat.le_refl _), List.take_of_length_le (by rw [length_le]; exact Nat.le_refl _)]
  have h2 : ∀ (v : BitVec 32) (x : List (BitVec 8)), (le v 2 ++ x).take 2 = le v 2 := fun v x => by rw [List.take_append_of_le_length (by rw [length_le]; exact Nat.le_refl _), List.take_of_length_le (by rw [length_le]; exact Nat.le_refl _)]
  have d4 : ∀ (v : BitVec 32) (x : List (BitVec 8)) (k : Nat), (le v 4 ++ x).drop (k + 4) = x.drop k := fun v x k => by rw [List.drop_append, List.drop_of_length_le (by rw [length_le]; omega), length_le, List.nil_append]; congr 1
  have d2 : ∀ (v : BitVec 32) (x : List (BitVec 8)) (k : Nat), (le v 2 ++ x).drop (k + 2) = x.drop k := fun v x k => by rw [List.drop_append, List.drop_of_length_le (by rw [length_le]; omega), length_le, List.nil_append]; congr 1
  unfold labOf labBody
  simp only [List.append_assoc]
  rw [h4, d4 _ _ 0, d4 _ _ 4, d4 _ _ 0, d4 _ _ 8, d4 _ _ 4, d4 _ _ 0, d4 _ _ 10, d4 _ _ 6, d4 _ _ 2, d2 _ _ 0]
  simp only [List.drop_zero]
  rw [h4, h4, h2, h2, num_le4, num_le4, num_le4, num_le2, num_le2]
theorem bodyOf_labB (L : Lab) : bodyOf (labB L) = labBody L ++ List.replicate 13 0#8 := by
  have h := length_labBody L
  show ((labBody L ++ List.replicate (29 - (labBody L).length) 0#8) ++ crcTail _).take 29 = _
  rw [h]
  exact List.take_left' (by rw [List.length_append, h, List.length_replicate])
theorem labOf_labB (L : Lab) : labOf (bodyOf (labB L)) = L := by rw [bodyOf_labB, labOf_pad]
theorem labB_inj {L M : Lab} (h : labB L = labB M) : L = M := by rw [← labOf_labB L, ← labOf_labB M, h]
theorem labIs_labB (L : Lab) : labIs (labB L) = true := by
  unfold labIs
  rw [labOf_labB, decide_eq_true rfl, Bool.and_true]
  exact decOk_sealedB (by decide) (by rw [length_labBody]; decide)
theorem labB_ne (L : Lab) : labB L ≠ List.replicate 32 0#8 := fun h => by
  have := congrArg markOf h
  rw [show markOf (labB L) = 0x4c#8 from rfl] at this
  exact absurd this (by decide)
theorem decLab_labB (L : Lab) : decLab (labB L) = L := by unfold decLab; rw [if_neg (labB_ne L), labIs_labB, if_pos rfl, labOf_labB]
theorem decLabE_labB (L : Lab) : decLabE (labB L) = 0 := by unfold decLabE; rw [if_neg (labB_ne L), labIs_labB, if_pos rfl]
/- a sector that is a label's is that one's, or zeros -/
theorem labB_decLab {b : List (BitVec 8)} (h : decLabE b = 0) : labB (decLab b) = b ∨ (b = List.replicate 32 0#8 ∧ decLab b = lab0) := by
  unfold decLabE at h
  unfold decLab
  by_cases h0 : b = List.replicate 32 0#8
  · exact .inr ⟨h0, by rw [if_pos h0]⟩
  · rw [if_neg h0] at h ⊢
    by_cases h1 : labIs b = true
    · rw [if_pos h1] at h ⊢
      unfold labIs at h1
      simp only [Bool.and_eq_true, decide_eq_true_eq] at h1
      exact .inl h1.2
    · rw [if_neg h1] at h; cases h
end Go.Proofs.Ytppbgkdkioldbaa

/- The document's numbers as bytes, the lowest first, and back. -/
set_option maxRecDepth 4000
namespace Go.Proofs.Ytppbgkdkioldbaa
open Go Go.RowKit
attribute [local go_sem] low_wd low8_wd low16_wd low24_wd shl8_wd conv_bd add_wd
theorem bytesV_snoc (q : List (BitVec 8)) (x : BitVec 8) : bytesV (q ++ [x]) = bytesV q ++ bytesV [x] := by simp [bytesV]
theorem num_drop (q : List (BitVec 8)) (k : Nat) (hk : k < q.length) : num (q.drop k) = (num (q.drop (k + 1)) <<< 8) + (q.getD k 0#8).setWidth 32 := by
  rw [List.drop_eq_getElem_cons hk, List.getD_eq_getElem?_getD, List.getElem?_eq_getElem hk]; rfl
theorem got_piece {w : World} {g k n c : Nat} {t : TypeId} {q : List (BitVec 8)} {e : Int} (h : Row w g t (gotCells q e)) (hq : q.length = 30) (hn : 1 + k + n ≤ 30) (hc : n ≤ c) : Slice w (.slice (some ⟨g, 1 + k, none⟩) n c) (((q.drop 1).drop k).take n) := by
  have hl : (((q.drop 1).drop k).take n).length = n := by rw [List.length_take, List.length_drop, List.length_drop]; omega
  refine ⟨some ⟨g, 1 + k, none⟩, c, by rw [hl], by rw [hl]; exact hc, fun _ => ⟨g, 1 + k, rfl, h.lt, fun j x hx => ?_⟩⟩
  have hj : j < n := by have := (List.getElem?_eq_some_iff.1 hx).1; omega
  rw [List.getElem?_take_of_lt hj, List.getElem?_drop, List.getElem?_drop] at hx
  refine h.get ?_
  unfold gotCells
  rw [List.getElem?_toArray, List.getElem?_append_left (by rw [len_bytesV, hq]; omega)]
  unfold bytesV
  rw [List.getElem?_map, show 1 + k + j = 1 + (k + j) by omega, hx]; rfl
theorem got_at {w : World} {g i : Nat} {t : TypeId} {q : List (BitVec 8)} {e : Int} (h : Row w g t (gotCells q e)) (hq : q.length = 30) (hi : i < 30) : w.cell? ⟨g, i, none⟩ = some (.int .u8 (bd (q.getD i 0#8))) := by
  refine h.get ?_
  unfold gotCells
  rw [List.getElem?_toArray, List.getElem?_append_left (by rw [len_bytesV, hq]; exact hi)]
  unfold bytesV
  rw [List.getElem?_map, List.getElem?_eq_getElem (by rw [hq]; exact hi), List.getD_eq_getElem?_getD, List.getElem?_eq_getElem (by rw [hq]; exact hi)]; rfl
end Go.Proofs.Ytppbgkdkioldbaa

/- Numbers as bytes, the lowest first, as the program's lowfirst appends and reads them. -/
set_option maxRecDepth 4000
namespace Go.Proofs.Ytppbgkdkioldbaa
open Go Go.RowKit
theorem bytesV_apps (p q : List (BitVec 8)) : bytesV (p ++ q) = bytesV p ++ bytesV q := by simp [bytesV]
def two (n : BitVec 16) : List (BitVec 8) := [n.setWidth 8, (n >>> 8).setWidth 8]
def four (v : BitVec 32) : List (BitVec 8) := two (v.setWidth 16) ++ two ((v >>> 16).setWidth 16)
def sv (o : Nat) (q : List (BitVec 8)) : BitVec 16 := (q.getD o 0#8).setWidth 16 ||| ((q.getD (o + 1) 0#8).setWidth 16) <<< 8
def lv (o : Nat) (q : List (BitVec 8)) : BitVec 32 := (sv o q).setWidth 32 ||| ((sv (o + 2) q).setWidth 32) <<< 16
theorem lw16 (x : BitVec 32) : IntKind.u16.wrap (wd x) = hd (x.setWidth 16) := by
  rw [IntKind.wrap_u16]; unfold wd hd; have := x.isLt; rw [BitVec.toNat_setWidth]; omega
theorem lwh (x : BitVec 16) : IntKind.u32.wrap (hd x) = wd (x.setWidth 32) := by
  rw [IntKind.wrap_u32]; unfold wd hd; have := x.isLt; rw [BitVec.toNat_setWidth]; omega
theorem lsh16 (x : BitVec 32) : IntKind.u16.wrap (wd x / (65536 : Int)) = hd ((x >>> 16).setWidth 16) := by rw [show wd x / (65536 : Int) = wd (x >>> 16) from shr_wd x 16, lw16]
attribute [local go_sem] lowb_hd lowb8_hd convb_hd shl8_hd or_hd lw16 lsh16 lwh or_wd shl16_wd
set_option maxHeartbeats 400000 in
theorem appshort_any (base : Nat) (q : List (BitVec 8)) (n : BitVec 16) (v : Value) (w : World) (h : w.ownsRow base 5 1 v q.length (bytesV q)) (hb : base ≤ w.heap.size) (hl : q.length ≤ 1000) :
    Calls Try.prog 37 #[v, .int .u16 (hd n)] w fun e w' => ∃ v', e = .returned v' ∧ w'.ownsRow base 5 1 v' (q.length + 2) (bytesV (q ++ two n)) ∧ Below base w w' := by
  obtain ⟨m, hm⟩ : ∃ m, q.length = m := ⟨_, rfl⟩
  rw [hm] at h hl ⊢
  clear hm
  obtain ⟨C, hC⟩ : ∃ C, (#[.int .u8 (bd (n.setWidth 8)), .int .u8 (bd ((n >>> 8).setWidth 8))] : Array Value) = C := ⟨_, rfl⟩
  have HR4 : Hid (Slice (w.alloc (.cells #[.int .u8 (bd (n.setWidth 8)), .int .u8 (bd ((n >>> 8).setWidth 8))] 5)) (.slice (some ⟨w.heap.size, 0, none⟩) 2 2) (two n)) := Lib.hid (row_slice (Row.fresh w 5 (bs (two n))) (c := 2) (Nat.le_refl _))
  have HO4 := Lib.hid (h.alloc (.cells #[.int .u8 (bd (n.setWidth 8)), .int .u8 (bd ((n >>> 8).setWidth 8))] 5))
  have HB2 := Lib.hid ((Below.refl base w).alloc hb (.cells #[.int .u8 (bd (n.setWidth 8)), .int .u8 (bd ((n >>> 8).setWidth 8))] 5))
  have HB4 := Lib.hid (Nat.le_trans hb HB2.out.size)
  clear h hb hC
  go_enter Try.func37, Try.ntmps37
  go_wp2_with (at_builtin; refine wpList_append_slice rfl (.tmp 5) (.tmp 11) rfl base _ m _ rfl HO4.out (some ⟨w.heap.size, 0, none⟩) 2 2 _ rfl HR4.out (fun h => by cases h) (by omega) HB4.out ?_; intro v6 w6 own6 hb6; rw [← bytesV_apps] at own6; have HO6 := Lib.hid own6; have HB6 := Lib.hid (HB2.out.trans hb6); clear own6 hb6)
  go_ret
  exact ⟨_, rfl, HO6.out, HB6.out⟩
set_option maxHeartbeats 400000 in
theorem applong_any (base : Nat) (q : List (BitVec 8)) (n : BitVec 32) (v : Value) (w : World) (h : w.ownsRow base 5 1 v q.length (bytesV q)) (hb : base ≤ w.heap.size) (hl : q.length ≤ 900) :
    Calls Try.prog 42 #[v, .int .u32 (wd n)] w fun e w' => ∃ v', e = .returned v' ∧ w'.ownsRow base 5 1 v' (q.length + 4) (bytesV (q ++ four n)) ∧ Below base w w' := by
  have C1 := appshort_any base q (n.setWidth 16) v w h hb (by omega)
  have HB := Lib.hid hb
  have HL := Lib.hid hl
  clear h hb hl
  go_enter Try.func42, Try.ntmps42
  go_wp2_with fail
  refine C1.mono ?_
  rintro e w1 ⟨v1, rfl, h1, b1⟩
  clear C1
  have C2 := appshort_any base (q ++ two (n.setWidth 16)) ((n >>> 16).setWidth 16) v1 w1 (by rw [List.length_append]; exact h1) (Nat.le_trans HB.out b1.size) (by rw [List.length_append]; have := HL.out; show q.length + 2 ≤ 1000; omega)
  have B1 := Lib.hid b1
  clear h1 b1
  go_wp2_with fail
  refine C2.mono ?_
  rintro e w2 ⟨v2, rfl, h2, b2⟩
  clear C2
  rw [List.append_assoc, List.length_append] at h2
  have H2 := Lib.hid h2
  have B2 := Lib.hid (B1.out.trans b2)
  clear h2 b2
  go_wp2_with fail
  go_ret
  exact ⟨_, rfl, H2.out, B2.out⟩
theorem le4 (v : BitVec 32) : le v 4 = [(v.setWidth 16).setWidth 8, ((v.setWidth 16) >>> 8).setWidth 8, ((v >>> 16).setWidth 16).setWidth 8, (((v >>> 16).setWidth 16) >>> 8).setWidth 8] := by
  have e : le v 4 = [(v >>> (8 * 0)).setWidth 8, (v >>> (8 * 1)).setWidth 8, (v >>> (8 * 2)).setWidth 8, (v >>> (8 * 3)).setWidth 8] := rfl
  rw [e]
  have := v.isLt
  have h0 : (v >>> (8 * 0)).setWidth 8 = (v.setWidth 16).setWidth 8 := BitVec.eq_of_toNat_eq (by simp only [BitVec.toNat_setWidth, BitVec.toNat_ushiftRight, Nat.shiftRight_eq_div_pow]; omega)
  have h1 : (v >>> (8 * 1)).setWidth 8 = ((v.setWidth 16) >>> 8).setWidth 8 := BitVec.eq_of_toNat_eq (by simp only [BitVec.toNat_setWidth, BitVec.toNat_ushiftRight, Nat.shiftRight_eq_div_pow]; omega)
  have h2 : (v >>> (8 * 2)).setWidth 8 = ((v >>> 16).setWidth 16).setWidth 8 := BitVec.eq_of_toNat_eq (by simp only [BitVec.toNat_setWidth, BitVec.toNat_ushiftRight, Nat.shiftRight_eq_div_pow]; omega)
  have h3 : (v >>> (8 * 3)).setWidth 8 = (((v >>> 16).setWidth 16) >>> 8).setWidth 8 := BitVec.eq_of_toNat_eq (by simp only [BitVec.toNat_setWidth, BitVec.toNat_ushiftRight, Nat.shiftRight_eq_div_pow]; omega)
  rw [h0, h1, h2, h3]
theorem le2 (d : BitVec 16) : le (d.setWidth 32) 2 = [d.setWidth 8, (d >>> 8).setWidth 8] := by
  have e : le (d.setWidth 32) 2 = [((d.setWidth 32) >>> (8 * 0)).setWidth 8, ((d.setWidth 32) >>> (8 * 1)).setWidth 8] := rfl
  rw [e]
  have := d.isLt
  have h0 : ((d.setWidth 32) >>> (8 * 0)).setWidth 8 = d.setWidth 8 := BitVec.eq_of_toNat_eq (by simp only [BitVec.toNat_setWidth, BitVec.toNat_ushiftRight, Nat.shiftRight_eq_div_pow]; omega)
  have h1 : ((d.setWidth 32) >>> (8 * 1)).setWidth 8 = (d >>> 8).setWidth 8 := BitVec.eq_of_toNat_eq (by simp only [BitVec.toNat_setWidth, BitVec.toNat_ushiftRight, Nat.shiftRight_eq_div_pow]; omega)
  rw [h0, h1]
theorem num2 (x y : BitVec 8) : (num [x, y]).setWidth 16 = x.setWidth 16 ||| (y.setWidth 16) <<< 8 := by
  have e := (halves ((num [x, y]).setWidth 16) x y).1
  refine (e ⟨?_, ?_⟩).symm
  · apply BitVec.eq_of_toNat_eq
    simp only [num, List.foldr_cons, List.foldr_nil, BitVec.toNat_setWidth, BitVec.toNat_add, BitVec.toNat_shiftLeft, Nat.shiftLeft_eq, BitVec.toNat_ofNat]
    have := x.isLt; have := y.isLt; omega
  · apply BitVec.eq_of_toNat_eq
    simp only [num, List.foldr_cons, List.foldr_nil, BitVec.toNat_setWidth, BitVec.toNat_ushiftRight, Nat.shiftRight_eq_div_pow, BitVec.toNat_add, BitVec.toNat_shiftLeft, Nat.shiftLeft_eq, BitVec.toNat_ofNat]
    have := x.isLt; have := y.isLt; omega
theorem num22 (a b : BitVec 16) : (a.setWidth 32 ||| (b.setWidth 32) <<< 16).toNat = b.toNat * 65536 + a.toNat := by
  have ha := a.isLt; have hb := b.isLt
  rw [BitVec.toNat_or, BitVec.toNat_shiftLeft, BitVec.toNat_setWidth, BitVec.toNat_setWidth, Nat.mod_eq_of_lt (show a.toNat < 2 ^ 32 by omega), Nat.mod_eq_of_lt (show b.toNat < 2 ^ 32 by omega),
    Nat.mod_eq_of_lt (show b.toNat <<< 16 < 2 ^ 32 by rw [Nat.shiftLeft_eq]; omega), Nat.or_comm, ← Nat.shiftLeft_add_eq_or_of_lt (show a.toNat < 2 ^ 16 by omega), Nat.shiftLeft_eq]
theorem num2N (x y : BitVec 8) : (x.setWidth 16 ||| (y.setWidth 16) <<< 8).toNat = y.toNat * 256 + x.toNat := by
  rw [← num2]
  simp only [num, List.foldr_cons, List.foldr_nil, BitVec.toNat_setWidth, BitVec.toNat_add, BitVec.toNat_shiftLeft, Nat.shiftLeft_eq, BitVec.toNat_ofNat]
  have := x.isLt; have := y.isLt; omega
theorem num4w (x y z u : BitVec 8) : (x.setWidth 16 ||| (y.setWidth 16) <<< 8).setWidth 32 ||| ((z.setWidth 16 ||| (u.setWidth 16) <<< 8).setWidth 32) <<< 16 = num [x, y, z, u] := by
  apply BitVec.eq_of_toNat_eq
  rw [num22, num2N, num2N]
  simp only [num, List.foldr_cons, List.foldr_nil, BitVec.toNat_setWidth, BitVec.toNat_add, BitVec.toNat_shiftLeft, Nat.shiftLeft_eq, BitVec.toNat_ofNat]
  have := x.isLt; have := y.isLt; have := z.isLt; have := u.isLt; omega
theorem piece4 (q : List (BitVec 8)) (o : Nat) (h : o + 4 ≤ q.length) : (q.drop o).take 4 = [q.getD o 0#8, q.getD (o + 1) 0#8, q.getD (o + 2) 0#8, q.getD (o + 2 + 1) 0#8] := by
  have g : ∀ k, o + k < q.length → q.getD (o + k) 0#8 = (q.drop o).getD k 0#8 := fun k hk => by rw [List.getD_eq_getElem?_getD, List.getD_eq_getElem?_getD, List.getElem?_drop]
  have hl : 4 ≤ (q.drop o).length := by rw [List.length_drop]; omega
  rw [show q.getD o 0#8 = q.getD (o + 0) 0#8 from rfl, show o + 2 + 1 = o + 3 from rfl, g 0 (by omega), g 1 (by omega), g 2 (by omega), g 3 (by omega)]
  match q.drop o, hl with
  | a :: b :: c :: d :: r, _ => rfl
theorem piece2 (q : List (BitVec 8)) (o : Nat) (h : o + 2 ≤ q.length) : (q.drop o).take 2 = [q.getD o 0#8, q.getD (o + 1) 0#8] := by
  have g : ∀ k, o + k < q.length → q.getD (o + k) 0#8 = (q.drop o).getD k 0#8 := fun k hk => by rw [List.getD_eq_getElem?_getD, List.getD_eq_getElem?_getD, List.getElem?_drop]
  have hl : 2 ≤ (q.drop o).length := by rw [List.length_drop]; omega
  rw [show q.getD o 0#8 = q.getD (o + 0) 0#8 from rfl, g 0 (by omega), g 1 (by omega)]
  match q.drop o, hl with
  | a :: b :: r, _ => rfl
theorem four_le (v : BitVec 32) : four v = le v 4 := by rw [le4]; rfl
theorem two_le (d : BitVec 16) : two d = le (d.setWidth 32) 2 := by rw [le2]; rfl
theorem lv_num (q : List (BitVec 8)) (o : Nat) (h : o + 4 ≤ q.length) : lv o q = num ((q.drop o).take 4) := by rw [piece4 q o h]; exact num4w _ _ _ _
theorem sv_num (q : List (BitVec 8)) (o : Nat) (h : o + 2 ≤ q.length) : sv o q = (num ((q.drop o).take 2)).setWidth 16 := by rw [piece2 q o h, num2]; rfl
theorem two_or (x y : BitVec 8) : two (x.setWidth 16 ||| (y.setWidth 16) <<< 8) = [x, y] := by
  obtain ⟨h1, h2⟩ := (halves (x.setWidth 16 ||| (y.setWidth 16) <<< 8) x y).2 rfl
  unfold two; rw [h1, h2]
theorem low16 (a b : BitVec 16) : (a.setWidth 32 ||| (b.setWidth 32) <<< 16).setWidth 16 = a := by
  apply BitVec.eq_of_toNat_eq
  rw [BitVec.toNat_setWidth, num22]
  have := a.isLt; omega
theorem high16 (a b : BitVec 16) : ((a.setWidth 32 ||| (b.setWidth 32) <<< 16) >>> 16).setWidth 16 = b := by
  apply BitVec.eq_of_toNat_eq
  rw [BitVec.toNat_setWidth, BitVec.toNat_ushiftRight, num22, Nat.shiftRight_eq_div_pow]
  have := a.isLt; have := b.isLt; omega
theorem le_lv (q : List (BitVec 8)) (o : Nat) (h : o + 4 ≤ q.length) : le (lv o q) 4 = (q.drop o).take 4 := by
  rw [← four_le, piece4 q o h]
  unfold four lv
  rw [low16, high16]
  unfold sv
  rw [two_or, two_or]; rfl
theorem le_sv (q : List (BitVec 8)) (o : Nat) (h : o + 2 ≤ q.length) : le ((sv o q).setWidth 32) 2 = (q.drop o).take 2 := by
  rw [← two_le, piece2 q o h]
  unfold sv
  rw [two_or]
end Go.Proofs.Ytppbgkdkioldbaa

/- Packets: what they are, their bytes, plainly. No function of the program is named here. -/
set_option maxRecDepth 4000
namespace Go.Proofs.Ytppbgkdkioldbaa
open Go Go.RowKit
abbrev Pt := Int × List (BitVec 8)
structure Pkt where
  k : Int
  e : BitVec 32
  s : BitVec 32
  l : List Pt
  deriving DecidableEq
def pkt0 : Pkt := ⟨0, 0#32, 0#32, []⟩
def mayP (p : Pkt) : Bool := if p.k = 1 ∨ p.k = 2 then goodB (p.l.map (·.1)) else if p.k = 3 ∨ p.k = 4 then decide (p.l.length = 0) else false
def pktA (k : Int) (e s : BitVec 32) (v : Value) : Array Value := #[.int .i64 k, .int .u32 (wd e), .int .u32 (wd s), v]
def byteP (z : Int) : BitVec 8 := BitVec.ofInt 8 z
def putB (x : Pt) : List (BitVec 8) := byteP x.1 :: x.2
def hdB (k : Int) (e s : BitVec 32) (n : Nat) : List (BitVec 8) := [byteP k] ++ four e ++ four s ++ [byteP n]
def bodyP (p : Pkt) : List (BitVec 8) := hdB p.k p.e p.s p.l.length ++ (p.l.map putB).flatten
def encP (p : Pkt) : List (BitVec 8) := bodyP p ++ two (crcOf (bodyP p))
theorem length_hdB (k : Int) (e s : BitVec 32) (n : Nat) : (hdB k e s n).length = 10 := by simp [hdB, four, two]
theorem length_putsB {l : List Pt} (h : ∀ x ∈ l, x.2.length = 32) : ((l.map putB).flatten).length = 33 * l.length := by
  induction l with
  | nil => rfl
  | cons x l ih =>
    rw [List.map_cons, List.flatten_cons, List.length_append, ih (fun y hy => h y (List.mem_cons_of_mem _ hy)), List.length_cons]
    have := h x (List.mem_cons_self ..)
    simp only [putB, List.length_cons, this]; omega
theorem length_bodyP {p : Pkt} (h : ∀ x ∈ p.l, x.2.length = 32) : (bodyP p).length = 10 + 33 * p.l.length := by unfold bodyP; rw [List.length_append, length_hdB, length_putsB h]
theorem length_encP {p : Pkt} (h : ∀ x ∈ p.l, x.2.length = 32) : (encP p).length = 12 + 33 * p.l.length := by unfold encP; rw [List.length_append, length_bodyP h]; simp [two]; omega
theorem mayP_len {p : Pkt} (h : mayP p = true) : p.l.length ≤ 5 := by
  unfold mayP at h
  split at h
  · unfold goodB at h
    simp only [Bool.and_eq_true, decide_eq_true_eq, List.length_map] at h
    exact h.2.2
  · split at h
    · have := of_decide_eq_true h; omega
    · cases h
end Go.Proofs.Ytppbgkdkioldbaa

/- The document's sector of a label. -/
set_option maxRecDepth 4000
namespace Go.Proofs.Ytppbgkdkioldbaa
open Go Go.RowKit
def labCells (L : Lab) : Array Value := #[.int .u32 (wd L.e), .int .u32 (wd L.s), .int .u32 (wd L.n), .int .u16 (hd L.d), .int .u16 (hd L.l)]
theorem conv_hd (x : BitVec 16) : IntKind.u32.wrap (hd x) = wd (x.setWidth 32) := by
  rw [IntKind.wrap_u32']; unfold hd wd; have := x.isLt; rw [BitVec.toNat_setWidth]; omega
theorem bytesV_app (p q : List (BitVec 8)) : bytesV (p ++ q) = bytesV p ++ bytesV q := by simp [bytesV]
end Go.Proofs.Ytppbgkdkioldbaa

/- Puts as they lie in memory; the document's bits of puts. -/
set_option maxRecDepth 4000
namespace Go.Proofs.Ytppbgkdkioldbaa
open Go Go.RowKit
def bit1 (i : Int) : BitVec 16 := if 0 ≤ i ∧ i < 12 then 1#16 <<< i.toNat else 0#16
def bitsOf (l : List Int) : BitVec 16 := l.foldl (fun v i => v ||| bit1 i) 0#16
theorem bitsOf_take (l : List Int) (k : Nat) (hk : k < l.length) : bitsOf (l.take (k + 1)) = bitsOf (l.take k) ||| bit1 l[k] := by
  unfold bitsOf
  rw [List.take_succ_eq_append_getElem hk, List.foldl_append]; rfl
theorem bit1_eq (i : Int) (h0 : 0 ≤ i) (h1 : i < 12) : IntKind.u16.wrap (2 ^ i.toNat) = hd (bit1 i) := by
  obtain ⟨n, rfl⟩ := Int.eq_ofNat_of_zero_le h0
  have hn : n < 12 := by omega
  have key : ∀ n : Nat, n < 12 → IntKind.u16.wrap ((2 : Int) ^ n) = hd (bit1 (n : Int)) := by decide +kernel
  exact key n hn
attribute [local go_sem] or_hd
end Go.Proofs.Ytppbgkdkioldbaa

/- The program's bits of puts. -/
set_option maxRecDepth 4000
namespace Go.Proofs.Ytppbgkdkioldbaa
open Go Go.RowKit
def zput : Array Value := (pcell (0, zer 32)).toArray
theorem size_putl : (Try.prog.info? 61).map (·.size) = some 33 := by kernel_rfl
theorem one_pcell (x : Int × List (BitVec 8)) : (pcell x).toArray.all (·.oneCell') = true := by
  rw [Array.all_eq_true_iff_forall_mem]
  intro v hv
  rw [List.mem_toArray] at hv
  rcases List.mem_cons.1 hv with rfl | hv
  · rfl
  · exact one_bytesV _ v hv
attribute [local go_sem] or_hd
set_option maxRecDepth 20000 in
set_option maxHeartbeats 800000 in
theorem labbits_any (l : List (Int × List (BitVec 8))) (v : Value) (w : World) (hv : PutsAt w v l) (hl : l.length ≤ 1000000) :
    Calls Try.prog 32 #[v] w fun e w' => e = .returned (.int .u16 (hd (bitsOf (l.map (·.1))))) ∧ Below w.heap.size w w' := by
  obtain ⟨A, c, rfl, _, hb, h3⟩ := hv
  have H3 := Lib.hid h3
  have HB := Lib.hid hb
  obtain ⟨n, hn⟩ : ∃ n, l.length = n := ⟨_, rfl⟩
  have HN := Lib.hid hn
  obtain ⟨D, hD⟩ : ∃ D : Nat → BitVec 16, ∀ k, bitsOf ((l.map (·.1)).take k) = D k := ⟨_, fun _ => rfl⟩
  have HD1 : Hid (∀ k x, l[k]? = some x → D (k + 1) = D k ||| bit1 x.1) := Lib.hid fun k x hx => by
    obtain ⟨hk, rfl⟩ := List.getElem?_eq_some_iff.1 hx
    rw [← hD, ← hD, bitsOf_take _ k (by simpa using hk)]; simp
  have HD0 : Hid (D 0 = 0#16) := Lib.hid (by rw [← hD]; rfl)
  rw [show bitsOf (l.map (·.1)) = D n by rw [← hD, ← hn]; congr 1; exact (List.take_of_length_le (by simp)).symm]
  rw [hn] at hl ⊢
  clear hD h3 hn hb
  go_enter Try.func32, Try.ntmps32
  go_wp2_with fail
  go_loopw [3, 8] (fun x i wr => ∃ k : Nat, k ≤ n ∧ i = .int .i64 k ∧ x = .int .u16 (hd (D k)) ∧ Below w.heap.size w wr) (fun _ i _ => n - (intOf i).toNat)
  case atStart => exact ⟨0, by omega, rfl, by rw [HD0.out]; rfl, Below.refl _ _⟩
  case round =>
    obtain ⟨k, hk, rfl, rfl, hB⟩ := hrel
    by_cases hlt : k < n
    · obtain ⟨⟨i, q⟩, hx⟩ : ∃ x, l[k]? = some x := ⟨_, List.getElem?_eq_getElem (by rw [HN.out]; exact hlt)⟩
      obtain ⟨b, o, rfl, hbw, h6⟩ := H3.out (by intro e; rw [e] at hx; simp at hx)
      have rg : wr.rangeAt b (o + k * 33) (pcell (i, q)) := fun j v hv => (hB.cell (p := ⟨b, o + k * 33 + j, none⟩) hbw).trans (h6 k _ hx j v hv)
      have hbd := (HB.out (i, q) (List.mem_of_getElem? hx)).2
      have HPL : Hid ((pcell (i, q)).length = 33) := Lib.hid (len_pcell (HB.out (i, q) (List.mem_of_getElem? hx)).1)
      have hd1 := HD1.out k _ hx
      have HD2 := Lib.hid hd1
      have hk0 : (0 : Int) ≤ (k : Int) := by omega
      have hk1 : (k : Int) < (n : Int) := by omega
      obtain ⟨X, hX⟩ : ∃ X, (pcell (i, q)).toArray = X := ⟨_, rfl⟩
      have HP1 : Hid ((Try.prog.info? 61).map (·.size) = some X.size) := Lib.hid (by rw [← hX, List.size_toArray, HPL.out]; exact size_putl)
      have HP2 : Hid (zput.size = X.size) := Lib.hid (by
        have e : (pcell (i, q)).toArray.size = 33 := by rw [List.size_toArray, HPL.out]
        rw [← hX, e]; rfl)
      have HP3 : Hid (X.all (·.oneCell') = true) := Lib.hid (by rw [← hX]; exact one_pcell _)
      have HX0 : Hid (X[0]? = some (.int .i64 i)) := Lib.hid (by rw [← hX]; rfl)
      have rg : wr.rangeAt b (o + k * 33) X.toList := by rw [← hX]; exact rg
      have HPX : Hid (X.toList.length = 33) := Lib.hid (by rw [← hX]; exact HPL.out)
      clear hX HPL
      have HBB := Lib.hid hB
      have HS := St.nil wr noF
      clear hx h6 hd1 hB
      go_upto_region 5 with (first | (refine wpList_load_mid rfl 61 _ rfl b (o + k * 33) rfl X.toList _ rg Try.underlying61 rfl (by rw [HPX.out]; exact size_putl) ?_) | ((with_reducible refine wpList_plain ?_ ?_); exact rfl; intro KK hKK; refine wp_st_alloc HS 61 (zput) rfl (.agg (zput)) (by kernel_rfl) (rfl) (fun g5 W1 HSx => hKK _ _ ?_); clear hKK KK HS; have HS : St wr noF [⟨g5, 61, zput⟩] W1 := HSx; clear HSx) | ((with_reducible refine wpList_plain ?_ ?_); exact rfl; intro KK hKK; refine wp_st_store HS 0 0 61 (.tmp 5) (.tmp 11) rfl rfl rfl (.agg (X)) rfl (by exact HP1.out) (by rw [Nat.zero_add]; exact Nat.le_of_eq (Eq.symm (HP2.out))) (HP3.out) (X) (spl_agg _ _ _ rfl (HP2.out)) (fun W2 HSx => hKK _ _ ?_); clear hKK KK HS; have HS : St wr noF [⟨g5, 61, X⟩] W2 := HSx; clear HSx))
      have hc := (HS.row 0 rfl).get HX0.out
      have HB2 := Lib.hid (HBB.out.trans (HS.below.mono HBB.out.size))
      clear rg HBB HS
      by_cases h0 : 0 ≤ i
      · by_cases h12 : i < 12
        · have hd3 : decide (0 ≤ i) = true := decide_eq_true h0
          have hd4 : decide (i < 12) = true := decide_eq_true h12
          have hb1 := bit1_eq i h0 h12
          go_wp2_with fail
          exact ⟨⟨k + 1, by omega, by go_num, by rw [HD2.out], HB2.out⟩, by simp [intOf] <;> omega⟩
        · have hd3 : decide (0 ≤ i) = true := decide_eq_true h0
          have hd4 : decide (i < 12) = false := decide_eq_false h12
          have HZ : Hid (bit1 i = 0#16) := Lib.hid (by unfold bit1; rw [if_neg (fun h => h12 h.2)])
          go_wp2_with fail
          exact ⟨⟨k + 1, by omega, by go_num, by rw [HD2.out, HZ.out, BitVec.or_zero], HB2.out⟩, by simp [intOf] <;> omega⟩
      · have hd3 : decide (0 ≤ i) = false := decide_eq_false h0
        have HZ : Hid (bit1 i = 0#16) := Lib.hid (by unfold bit1; rw [if_neg (fun h => h0 h.1)])
        go_wp2_with fail
        exact ⟨⟨k + 1, by omega, by go_num, by rw [HD2.out, HZ.out, BitVec.or_zero], HB2.out⟩, by simp [intOf] <;> omega⟩
    · obtain rfl : k = n := by omega
      go_wp2_with fail
      go_ret
      exact ⟨rfl, hB⟩
end Go.Proofs.Ytppbgkdkioldbaa

/- What a primary has out, plainly. No function of the program is named here. -/
set_option maxRecDepth 4000
namespace Go.Proofs.Ytppbgkdkioldbaa
open Go Go.RowKit
structure Snd where
  o : Pkt
  p : Pkt
  n : Int
  t : Bool
  deriving DecidableEq
def snd0 : Snd := ⟨pkt0, pkt0, 0, false⟩
def opB (p : Pkt) : Bool := decide (p.k = 1 ∨ p.k = 2) && mayP p
def sendE (S : Snd) (p : Pkt) : Int := if opB p = true then (if S.o.k = 0 then 0 else 19) else 1
def sendS (S : Snd) (p : Pkt) : Snd := if opB p = true ∧ S.o.k = 0 then ⟨p, S.p, 0, false⟩ else S
def stopS (S : Snd) (early : Bool) : Snd := ⟨pkt0, if early then (if S.o.k = 0 then S.p else S.o) else pkt0, 0, false⟩
def missS (S : Snd) : Snd := if S.o.k = 0 then S else ⟨S.o, S.p, S.n + 1, S.t⟩
def missN (S : Snd) : Int := if S.o.k = 0 then 0 else S.n + 1
def ackB (S : Snd) (a : Pkt) : Bool := decide (S.o.k ≠ 0) && decide (a.k = 3) && decide (a.e = S.o.e) && decide (a.s = S.o.s)
def ackS (S : Snd) (a : Pkt) : Snd := if ackB S a = true then stopS S true else S
def touchB (S : Snd) (l : List Pt) : Bool := decide (S.o.k = 2) && decide (bitsOf (l.map (·.1)) &&& bitsOf ((S.o.l.take 1).map (·.1)) ≠ 0#16)
def touchS (S : Snd) (l : List Pt) : Snd := if touchB S l = true then ⟨S.o, S.p, S.n, true⟩ else S
/- what is out is none, or a packet that may be -/
def OutOk (S : Snd) : Prop := S.o = pkt0 ∨ opB S.o = true
theorem opB_k {p : Pkt} (h : opB p = true) : p.k = 1 ∨ p.k = 2 := by
  unfold opB at h
  exact of_decide_eq_true (Bool.and_eq_true _ _ ▸ h).1
theorem opB_may {p : Pkt} (h : opB p = true) : mayP p = true := (Bool.and_eq_true _ _ ▸ h).2
theorem opB_put {p : Pkt} (h : opB p = true) : 1 ≤ p.l.length ∧ p.l.length ≤ 5 := by
  have h2 := opB_may h
  unfold mayP at h2
  rw [if_pos (opB_k h)] at h2
  unfold goodB at h2
  simp only [Bool.and_eq_true, decide_eq_true_eq, List.length_map] at h2
  exact h2.2
theorem OutOk.send {S : Snd} (h : OutOk S) (p : Pkt) : OutOk (sendS S p) := by
  unfold sendS
  split
  · rename_i h2; exact .inr h2.1
  · exact h
theorem OutOk.stop (S : Snd) (b : Bool) : OutOk (stopS S b) := .inl rfl
theorem OutOk.miss {S : Snd} (h : OutOk S) : OutOk (missS S) := by
  unfold missS
  split <;> exact h
theorem OutOk.ack {S : Snd} (h : OutOk S) (a : Pkt) : OutOk (ackS S a) := by
  unfold ackS
  split
  · exact .inl rfl
  · exact h
theorem OutOk.touch {S : Snd} (h : OutOk S) (l : List Pt) : OutOk (touchS S l) := by
  unfold touchS
  split <;> exact h
theorem OutOk.len {S : Snd} (h : OutOk S) : S.o.l.length ≤ 5 := by
  rcases h with h | h
  · rw [h]; decide
  · exact (opB_put h).2
end Go.Proofs.Ytppbgkdkioldbaa

/- Numbers that slices begin with, as the program's lowfirst reads them. -/
set_option maxRecDepth 4000
namespace Go.Proofs.Ytppbgkdkioldbaa
open Go Go.RowKit
/- block g holds q from offset a on -/
structure BAt (w : World) (g o : Nat) (q : List (BitVec 8)) : Prop where
  lt : g < w.heap.size
  at_ : ∀ (j : Nat) (x : BitVec 8), q[j]? = some x → w.cell? ⟨g, o + j, none⟩ = some (.int .u8 (bd x))
theorem BAt.below {w w' : World} {g o B : Nat} {q : List (BitVec 8)} (h : BAt w g o q) (hb : Below B w w') (hg : g < B) : BAt w' g o q := ⟨Nat.lt_of_lt_of_le h.lt hb.size, fun j x hx => (hb.cell (p := ⟨g, o + j, none⟩) hg).trans (h.at_ j x hx)⟩
theorem BAt.call {w w' : World} {g o : Nat} {q : List (BitVec 8)} (h : BAt w g o q) (hb : Below w.heap.size w w') : BAt w' g o q := h.below hb h.lt
theorem BAt.get {w : World} {g o : Nat} {q : List (BitVec 8)} (h : BAt w g o q) (j : Nat) (hj : j < q.length) : w.cell? ⟨g, o + j, none⟩ = some (.int .u8 (bd (q.getD j 0#8))) :=
  h.at_ j _ (by rw [List.getD_eq_getElem?_getD, List.getElem?_eq_getElem hj]; rfl)
theorem BAt.drop {w : World} {g o : Nat} {q : List (BitVec 8)} (h : BAt w g o q) (k : Nat) : BAt w g (o + k) (q.drop k) := ⟨h.lt, fun j x hx => by
  rw [List.getElem?_drop] at hx
  rw [Nat.add_assoc]
  exact h.at_ (k + j) x hx⟩
theorem BAt.take {w : World} {g o : Nat} {q : List (BitVec 8)} (h : BAt w g o q) (k : Nat) : BAt w g o (q.take k) := ⟨h.lt, fun j x hx => by
  refine h.at_ j x ?_
  by_cases hj : j < k
  · rw [List.getElem?_take_of_lt hj] at hx; exact hx
  · rw [List.getElem?_eq_none (by rw [List.length_take]; omega)] at hx; cases hx⟩
theorem BAt.slice {w : World} {g o c : Nat} {q : List (BitVec 8)} (h : BAt w g o q) {n : Nat} (hn : q.length = n) (hc : n ≤ c) : Slice w (.slice (some ⟨g, o, none⟩) n c) q :=
  ⟨_, c, by rw [hn], by rw [hn]; exact hc, fun _ => ⟨g, o, rfl, h.lt, h.at_⟩⟩
theorem slice_bat {w : World} {A : Option Addr} {n c : Nat} {q : List (BitVec 8)} (h : Slice w (.slice A n c) q) (hq : 0 < q.length) : ∃ g o, A = some ⟨g, o, none⟩ ∧ BAt w g o q ∧ q.length ≤ c := by
  obtain ⟨A', c', e, h2, h3⟩ := h
  injection e with e1 _ e3
  subst e1 e3
  obtain ⟨g, o, h4, h5, h6⟩ := h3 (by intro e; rw [e] at hq; simp at hq)
  exact ⟨g, o, h4, ⟨h5, h6⟩, h2⟩
theorem Row.bat {w : World} {g : Nat} {t : TypeId} {q : List (BitVec 8)} (h : Row w g t (bs q)) : BAt w g 0 q := ⟨h.lt, fun j x hx => by rw [Nat.zero_add]; exact h.get (by simp [bs, hx])⟩
theorem i64_bd (x : BitVec 8) : IntKind.i64.wrap (bd x) = bd x := i64_id _ (by have := bd_lo x; omega) (by have := bd_hi x; omega)
theorem BAt.range {w : World} {g o : Nat} {q : List (BitVec 8)} (h : BAt w g o q) (k n : Nat) (_ : k + n ≤ q.length) : w.rangeAt g (o + k) (bytesV ((q.drop k).take n)) := fun j v hv => by
  simp only [bytesV, List.getElem?_map, Option.map_eq_some_iff] at hv
  obtain ⟨x, hx, rfl⟩ := hv
  exact ((h.drop k).take n).at_ j x hx
theorem BAt.far {w w' : World} {g o k : Nat} {q : List (BitVec 8)} (h : BAt w g o q) (hg : w.grownBy w' (some k)) (hne : g ≠ k) : BAt w' g o q :=
  ⟨Nat.lt_of_lt_of_le h.lt hg.size, fun j x hx => (hg.cell_far ⟨g, o + j, none⟩ h.lt (by simpa using hne)).trans (h.at_ j x hx)⟩
theorem slice_at {w : World} {g o n c : Nat} {q : List (BitVec 8)} (h : Slice w (.slice (some ⟨g, o, none⟩) n c) q) (hq : 0 < q.length) : BAt w g o q := by
  obtain ⟨g', o', e, hb, _⟩ := slice_bat h hq
  injection e with e
  injection e with e1 e2
  subst e1 e2
  exact hb
attribute [local go_sem] lowb_hd lowb8_hd convb_hd shl8_hd or_hd lw16 lsh16 lwh or_wd shl16_wd
theorem sv_drop (q : List (BitVec 8)) : sv 0 (q.drop 2) = sv (0 + 2) q := by
  unfold sv
  simp [List.getD_eq_getElem?_getD, List.getElem?_drop]
end Go.Proofs.Ytppbgkdkioldbaa
