/- Merged: LabelSpec LabelRef Low RepSpec Reps RepPrg RepJoin LowC RepDec RepPure RepWakes KeepReps RepRef RepOwn RepRefJ. -/
import Derived.Deep.Cut
import Derived.Deep.AppendLies
import Derived.Deep.DeepAppendWide
import Derived.Test.YtamofhjnpahamaaMSeal0
import Derived.Test.YtamofhjnpahamaaMGen0
/- A label as plain data: its bytes, what bytes tell, which is later, the bits of numbers. No program is named here. -/
set_option maxRecDepth 4000
namespace Go.Proofs.Ytamofhjnpahamaa
def le (v : BitVec 32) (n : Nat) : List (BitVec 8) := (List.range n).map fun i => (v >>> (8 * i)).setWidth 8
def num (b : List (BitVec 8)) : BitVec 32 := b.foldr (fun x v => (v <<< 8) + x.setWidth 32) 0#32
structure Lab where
  e : BitVec 32
  s : BitVec 32
  n : BitVec 32
  d : BitVec 16
  l : BitVec 16
deriving DecidableEq
def labBody (L : Lab) : List (BitVec 8) := le L.e 4 ++ le L.s 4 ++ le L.n 4 ++ le (L.d.setWidth 32) 2 ++ le (L.l.setWidth 32) 2
def labB (L : Lab) : List (BitVec 8) := sealedB 0x4c#8 (labBody L)
def labOf (b : List (BitVec 8)) : Lab := ⟨num (b.take 4), num ((b.drop 4).take 4), num ((b.drop 8).take 4), (num ((b.drop 12).take 2)).setWidth 16, (num ((b.drop 14).take 2)).setWidth 16⟩
def lab0 : Lab := ⟨0#32, 0#32, 0#32, 0#16, 0#16⟩
def labIs (b : List (BitVec 8)) : Bool := decOk b && decide (labB (labOf (bodyOf b)) = b)
def decLab (b : List (BitVec 8)) : Lab := if b = List.replicate 32 0#8 then lab0 else if labIs b then labOf (bodyOf b) else lab0
def decLabE (b : List (BitVec 8)) : Int := if b = List.replicate 32 0#8 then 0 else if labIs b then 0 else 11
def laterB (e s t n : BitVec 32) : Bool := decide (t.toNat < e.toNat) || (decide (e = t) && decide (n.toNat < s.toNat))
theorem length_le (v : BitVec 32) (n : Nat) : (le v n).length = n := by simp [le]
theorem le_succ (v : BitVec 32) (n : Nat) : le v (n + 1) = le v n ++ [(v >>> (8 * n)).setWidth 8] := by simp [le, List.range_succ]
theorem length_labBody (L : Lab) : (labBody L).length = 16 := by simp [labBody, length_le]
theorem length_labB (L : Lab) : (labB L).length = 32 := length_sealedB (by rw [length_labBody]; decide)
theorem num4 (a b c d : BitVec 8) : num [a, b, c, d] = (((((d.setWidth 32) <<< 8) + c.setWidth 32) <<< 8) + b.setWidth 32) <<< 8 + a.setWidth 32 := by
  simp [num]
theorem num_le4 (v : BitVec 32) : num (le v 4) = v := by
  have e : le v 4 = [v.setWidth 8, (v >>> 8).setWidth 8, (v >>> 16).setWidth 8, (v >>> 24).setWidth 8] := by simp [le, List.range_succ]
  rw [e, num4]
  apply BitVec.eq_of_toNat_eq
  simp only [BitVec.toNat_add, BitVec.toNat_shiftLeft, BitVec.toNat_setWidth, BitVec.toNat_ushiftRight, Nat.shiftLeft_eq, Nat.shiftRight_eq_div_pow]
  have := v.isLt
  omega
theorem num_le2 (d : BitVec 16) : (num (le (d.setWidth 32) 2)).setWidth 16 = d := by
  have e : le (d.setWidth 32) 2 = [(d.setWidth 32).setWidth 8, (d.setWidth 32 >>> 8).setWidth 8] := by simp [le, List.range_succ]
  rw [e]
  apply BitVec.eq_of_toNat_eq
  simp only [num, List.foldr_cons, List.foldr_nil, BitVec.toNat_add, BitVec.toNat_shiftLeft, BitVec.toNat_setWidth, BitVec.toNat_ushiftRight, Nat.shiftLeft_eq, Nat.shiftRight_eq_div_pow, BitVec.toNat_ofNat]
  have := d.isLt
  omega
theorem labOf_pad (L : Lab) (r : List (BitVec 8)) : labOf (labBody L ++ r) = L := by
  have h4 : ∀ (v : BitVec 32) (x : List (BitVec 8)), (le v 4 ++ x).take 4 = le v 4 := fun v x => by rw [List.take_append_of_le_length (by rw [length_le]; exact Nat.le_refl _), List.take_of_length_le (by rw [length_le]; exact Nat.le_refl _)]
  have h2 : ∀ (v : BitVec 32) (x : List (BitVec 8)), (le v 2 ++ x).take 2 = le v 2 := fun v x => by rw [List.take_append_of_le_length (by rw [length_le]; exact Nat.le_refl _), List.take_of_length_le (by rw [length_le]; exact Nat.le_refl _)]
  have d4 : ∀ (v : BitVec 32) (x : List (BitVec 8)) (k : Nat), (le v 4 ++ x).drop (k + 4) = x.drop k := fun v x k => by rw [List.drop_append, List.drop_of_length_le (by rw [length_le]; omega), length_le, List.nil_append]; congr 1
  have d2 : ∀ (v : BitVec 32) (x : List (BitVec 8)) (k : Nat), (le v 2 ++ x).drop (k + 2) = x.drop k := fun v x k => by rw [List.drop_append, List.drop_of_length_le (by rw [length_le]; omega), length_le, List.nil_append]; congr 1
  unfold labOf labBody
  simp only [List.append_assoc]
  rw [h4, d4 _ _ 0, d4 _ _ 4, d4 _ _ 0, d4 _ _ 8, d4 _ _ 4, d4 _ _ 0, d4 _ _ 10, d4 _ _ 6, d4 _ _ 2, d2 _ _ 0]
  simp only [List.drop_zero]
  rw [h4, h4, h2, h2, num_le4, num_le4, num_le4, num_le2, num_le2]
theorem bodyOf_labB (L : Lab) : bodyOf (labB L) = labBody L ++ List.replicate 13 0#8 := by
  have h := length_labBody L
  show ((labBody L ++ List.replicate (29 - (labBody L).length) 0#8) ++ crcTail _).take 29 = _
  rw [h]
  exact List.take_left' (by rw [List.length_append, h, List.length_replicate])
theorem labOf_labB (L : Lab) : labOf (bodyOf (labB L)) = L := by rw [bodyOf_labB, labOf_pad]
theorem labB_inj {L M : Lab} (h : labB L = labB M) : L = M := by rw [← labOf_labB L, ← labOf_labB M, h]
theorem labIs_labB (L : Lab) : labIs (labB L) = true := by
  unfold labIs
  rw [labOf_labB, decide_eq_true rfl, Bool.and_true]
  exact decOk_sealedB (by decide) (by rw [length_labBody]; decide)
theorem labB_ne (L : Lab) : labB L ≠ List.replicate 32 0#8 := fun h => by
  have := congrArg markOf h
  rw [show markOf (labB L) = 0x4c#8 from rfl] at this
  exact absurd this (by decide)
theorem decLab_labB (L : Lab) : decLab (labB L) = L := by unfold decLab; rw [if_neg (labB_ne L), labIs_labB, if_pos rfl, labOf_labB]
theorem decLabE_labB (L : Lab) : decLabE (labB L) = 0 := by unfold decLabE; rw [if_neg (labB_ne L), labIs_labB, if_pos rfl]
/- a sector that is a label's is that one's, or zeros -/
theorem labB_decLab {b : List (BitVec 8)} (h : decLabE b = 0) : labB (decLab b) = b ∨ (b = List.replicate 32 0#8 ∧ decLab b = lab0) := by
  unfold decLabE at h
  unfold decLab
  by_cases h0 : b = List.replicate 32 0#8
  · exact .inr ⟨h0, by rw [if_pos h0]⟩
  · rw [if_neg h0] at h ⊢
    by_cases h1 : labIs b = true
    · rw [if_pos h1] at h ⊢
      unfold labIs at h1
      simp only [Bool.and_eq_true, decide_eq_true_eq] at h1
      exact .inl h1.2
    · rw [if_neg h1] at h; cases h
end Go.Proofs.Ytamofhjnpahamaa

/- The document's numbers as bytes, the lowest first, and back. -/
set_option maxRecDepth 4000
namespace Go.Proofs.Ytamofhjnpahamaa
open Go Go.RowKit
attribute [local go_sem] low_wd low8_wd low16_wd low24_wd shl8_wd conv_bd add_wd
theorem bytesV_snoc (q : List (BitVec 8)) (x : BitVec 8) : bytesV (q ++ [x]) = bytesV q ++ bytesV [x] := by simp [bytesV]
set_option maxHeartbeats 800000 in
theorem refput_any (v : BitVec 32) (n : Nat) (w : World) (hn : n ≤ 4) :
    Calls Try.prog 23 #[.int .u32 (wd v), .int .i64 (n : Int)] w fun e w' => ∃ u, e = .returned u ∧ w'.ownsRow w.heap.size 5 1 u n (bytesV (le v n)) ∧ Below w.heap.size w w' := by
  have HS : Hid (∀ k, le v (k + 1) = le v k ++ [(v >>> (8 * k)).setWidth 8]) := Lib.hid (le_succ v)
  obtain ⟨L, hL⟩ : ∃ L, le v = L := ⟨_, rfl⟩
  have HL0 : Hid (L 0 = []) := Lib.hid (by rw [← hL]; rfl)
  rw [hL] at HS ⊢
  clear hL
  go_enter Try.func23, Try.ntmps23
  go_wp2_with fail
  go_loopw [5, 6] (fun s i wr => ∃ k : Nat, k ≤ n ∧ i = .int .i64 k ∧ wr.ownsRow w.heap.size 5 1 s k (bytesV (L k)) ∧ Below w.heap.size w wr) (fun _ i _ => n - (intOf i).toNat)
  case atStart => exact ⟨0, by omega, rfl, by rw [HL0.out]; exact World.ownsRow_nil _ _ _ _, Below.refl _ _⟩
  case round =>
    obtain ⟨k, hk, rfl, hO, hB⟩ := hrel
    obtain ⟨A, c, rfl, _⟩ := own_slice_form hO
    by_cases hlt : k < n
    · have hs := HS.out k
      have HB := Lib.hid hB
      have hlt' : (k : Int) < (n : Int) := by omega
      obtain ⟨x, hx⟩ : ∃ x, (v >>> (8 * k)).setWidth 8 = x := ⟨_, rfl⟩
      rw [hx] at hs
      have HSS := Lib.hid hs
      have HO := Lib.hid (hO.alloc (.cells #[.int .u8 (bd x)] 5))
      have HR : Hid (Slice (wr.alloc (.cells #[.int .u8 (bd x)] 5)) (.slice (some ⟨wr.heap.size, 0, none⟩) 1 1) [x]) := Lib.hid (row_slice (Row.fresh wr 5 (bs [x])) (c := 1) (Nat.le_refl _))
      have HB2 := Lib.hid (hB.alloc hB.size (.cells #[.int .u8 (bd x)] 5))
      clear hO hB hs
      rcases k with _ | _ | _ | _ | k
      · subst hx
        go_wp2_with (at_builtin; refine wpList_append_slice rfl (.tmp 12) (.tmp 19) rfl w.heap.size _ _ _ rfl HO.out (some ⟨wr.heap.size, 0, none⟩) 1 1 _ rfl HR.out (fun h => by cases h) (by omega) HB2.out.size ?_; intro v6 w6 own6 hb6; have HO6 := Lib.hid own6; have HB6 := Lib.hid (HB2.out.trans hb6); clear own6 hb6)
        exact ⟨⟨1, by omega, rfl, by rw [HSS.out, bytesV_snoc]; exact HO6.out, HB6.out⟩, by simp [intOf] <;> omega⟩
      · subst hx
        go_wp2_with (at_builtin; refine wpList_append_slice rfl (.tmp 12) (.tmp 19) rfl w.heap.size _ _ _ rfl HO.out (some ⟨wr.heap.size, 0, none⟩) 1 1 _ rfl HR.out (fun h => by cases h) (by omega) HB2.out.size ?_; intro v6 w6 own6 hb6; have HO6 := Lib.hid own6; have HB6 := Lib.hid (HB2.out.trans hb6); clear own6 hb6)
        exact ⟨⟨2, by omega, rfl, by rw [HSS.out, bytesV_snoc]; exact HO6.out, HB6.out⟩, by simp [intOf] <;> omega⟩
      · subst hx
        go_wp2_with (at_builtin; refine wpList_append_slice rfl (.tmp 12) (.tmp 19) rfl w.heap.size _ _ _ rfl HO.out (some ⟨wr.heap.size, 0, none⟩) 1 1 _ rfl HR.out (fun h => by cases h) (by omega) HB2.out.size ?_; intro v6 w6 own6 hb6; have HO6 := Lib.hid own6; have HB6 := Lib.hid (HB2.out.trans hb6); clear own6 hb6)
        exact ⟨⟨3, by omega, rfl, by rw [HSS.out, bytesV_snoc]; exact HO6.out, HB6.out⟩, by simp [intOf] <;> omega⟩
      · subst hx
        go_wp2_with (at_builtin; refine wpList_append_slice rfl (.tmp 12) (.tmp 19) rfl w.heap.size _ _ _ rfl HO.out (some ⟨wr.heap.size, 0, none⟩) 1 1 _ rfl HR.out (fun h => by cases h) (by omega) HB2.out.size ?_; intro v6 w6 own6 hb6; have HO6 := Lib.hid own6; have HB6 := Lib.hid (HB2.out.trans hb6); clear own6 hb6)
        exact ⟨⟨4, by omega, rfl, by rw [HSS.out, bytesV_snoc]; exact HO6.out, HB6.out⟩, by simp [intOf] <;> omega⟩
      · omega
    · obtain rfl : k = n := by omega
      have HO := Lib.hid hO
      have HB := Lib.hid hB
      clear hO hB
      go_wp2_with fail
      go_ret
      exact ⟨_, rfl, HO.out, HB.out⟩
theorem num_drop (q : List (BitVec 8)) (k : Nat) (hk : k < q.length) : num (q.drop k) = (num (q.drop (k + 1)) <<< 8) + (q.getD k 0#8).setWidth 32 := by
  rw [List.drop_eq_getElem_cons hk, List.getD_eq_getElem?_getD, List.getElem?_eq_getElem hk]; rfl
set_option maxHeartbeats 800000 in
theorem refnum_any (q : List (BitVec 8)) (v : Value) (w : World) (hs : Slice w v q) (hq : q.length ≤ 100) :
    Calls Try.prog 28 #[v] w fun e w' => e = .returned (.int .u32 (wd (num q))) ∧ w = w' := by
  obtain ⟨A, c, rfl, _, h3⟩ := hs
  have H3 := Lib.hid h3
  obtain ⟨n, hn⟩ : ∃ n, q.length = n := ⟨_, rfl⟩
  have HN := Lib.hid hn
  obtain ⟨D, hD⟩ : ∃ D : Nat → BitVec 32, ∀ k, num (q.drop k) = D k := ⟨_, fun _ => rfl⟩
  have HD1 : Hid (∀ k, k < n → D k = (D (k + 1) <<< 8) + (q.getD k 0#8).setWidth 32) := Lib.hid fun k hk => by rw [← hD, ← hD]; exact num_drop q k (by omega)
  have HDn : Hid (D n = 0#32) := Lib.hid (by rw [← hD, ← hn, List.drop_length]; rfl)
  rw [show num q = D 0 by rw [← hD 0]; rfl]
  rw [hn] at hq ⊢
  clear hD h3 hn
  go_enter Try.func28, Try.ntmps28
  go_wp2_with fail
  go_loopw [3, 4] (fun x j wr => wr = w ∧ ∃ (k : Nat) (J : Int), j = .int .i64 J ∧ J + 1 = k ∧ k ≤ n ∧ x = .int .u32 (wd (D k))) (fun _ j _ => (intOf j + 1).toNat)
  case atStart => exact ⟨rfl, n, (n : Int) - 1, by go_num, by omega, Nat.le_refl _, by rw [HDn.out]; rfl⟩
  case round =>
    obtain ⟨rfl, k, J, rfl, hJ, hk, rfl⟩ := hrel
    rcases k with _ | k
    · obtain rfl : J = -1 := by omega
      clear hk hJ
      go_wp2_with fail
      go_ret
      exact ⟨rfl, rfl⟩
    · obtain rfl : J = (k : Int) := by omega
      have hd := HD1.out k (by omega)
      have HD := Lib.hid hd
      obtain ⟨b, o, rfl, _, h6⟩ := H3.out (by intro e; have := HN.out; rw [e] at this; simp at this; omega)
      have c0 := h6 k (q.getD k 0#8) (by rw [List.getD_eq_getElem?_getD, List.getElem?_eq_getElem (by rw [HN.out]; omega)]; rfl)
      obtain ⟨x, hx⟩ : ∃ x, q.getD k 0#8 = x := ⟨_, rfl⟩
      rw [hx] at HD c0
      have hk0 : (0 : Int) ≤ (k : Int) := by omega
      have hk1 : (k : Int) < (n : Int) := by omega
      clear hx h6 hd
      generalize D (k + 1) = y at *
      go_wp2_with fail
      exact ⟨⟨trivial, k, (k : Int) - 1, by go_num, by omega, by omega, by rw [HD.out]⟩, by simp [intOf] <;> omega⟩
theorem got_piece {w : World} {g k n c : Nat} {t : TypeId} {q : List (BitVec 8)} {e : Int} (h : Row w g t (gotCells q e)) (hq : q.length = 30) (hn : 1 + k + n ≤ 30) (hc : n ≤ c) : Slice w (.slice (some ⟨g, 1 + k, none⟩) n c) (((q.drop 1).drop k).take n) := by
  have hl : (((q.drop 1).drop k).take n).length = n := by rw [List.length_take, List.length_drop, List.length_drop]; omega
  refine ⟨some ⟨g, 1 + k, none⟩, c, by rw [hl], by rw [hl]; exact hc, fun _ => ⟨g, 1 + k, rfl, h.lt, fun j x hx => ?_⟩⟩
  have hj : j < n := by have := (List.getElem?_eq_some_iff.1 hx).1; omega
  rw [List.getElem?_take_of_lt hj, List.getElem?_drop, List.getElem?_drop] at hx
  refine h.get ?_
  unfold gotCells
  rw [List.getElem?_toArray, List.getElem?_append_left (by rw [len_bytesV, hq]; omega)]
  unfold bytesV
  rw [List.getElem?_map, show 1 + k + j = 1 + (k + j) by omega, hx]; rfl
theorem got_at {w : World} {g i : Nat} {t : TypeId} {q : List (BitVec 8)} {e : Int} (h : Row w g t (gotCells q e)) (hq : q.length = 30) (hi : i < 30) : w.cell? ⟨g, i, none⟩ = some (.int .u8 (bd (q.getD i 0#8))) := by
  refine h.get ?_
  unfold gotCells
  rw [List.getElem?_toArray, List.getElem?_append_left (by rw [len_bytesV, hq]; exact hi)]
  unfold bytesV
  rw [List.getElem?_map, List.getElem?_eq_getElem (by rw [hq]; exact hi), List.getD_eq_getElem?_getD, List.getElem?_eq_getElem (by rw [hq]; exact hi)]; rfl
end Go.Proofs.Ytamofhjnpahamaa

/- Numbers as bytes, the lowest first, as the program's lowfirst appends and reads them. -/
set_option maxRecDepth 4000
namespace Go.Proofs.Ytamofhjnpahamaa
open Go Go.RowKit
theorem bytesV_apps (p q : List (BitVec 8)) : bytesV (p ++ q) = bytesV p ++ bytesV q := by simp [bytesV]
def two (n : BitVec 16) : List (BitVec 8) := [n.setWidth 8, (n >>> 8).setWidth 8]
def four (v : BitVec 32) : List (BitVec 8) := two (v.setWidth 16) ++ two ((v >>> 16).setWidth 16)
def sv (o : Nat) (q : List (BitVec 8)) : BitVec 16 := (q.getD o 0#8).setWidth 16 ||| ((q.getD (o + 1) 0#8).setWidth 16) <<< 8
def lv (o : Nat) (q : List (BitVec 8)) : BitVec 32 := (sv o q).setWidth 32 ||| ((sv (o + 2) q).setWidth 32) <<< 16
theorem lw16 (x : BitVec 32) : IntKind.u16.wrap (wd x) = hd (x.setWidth 16) := by
  rw [IntKind.wrap_u16]; unfold wd hd; have := x.isLt; rw [BitVec.toNat_setWidth]; omega
theorem lwh (x : BitVec 16) : IntKind.u32.wrap (hd x) = wd (x.setWidth 32) := by
  rw [IntKind.wrap_u32]; unfold wd hd; have := x.isLt; rw [BitVec.toNat_setWidth]; omega
theorem lsh16 (x : BitVec 32) : IntKind.u16.wrap (wd x / (65536 : Int)) = hd ((x >>> 16).setWidth 16) := by rw [show wd x / (65536 : Int) = wd (x >>> 16) from shr_wd x 16, lw16]
attribute [local go_sem] lowb_hd lowb8_hd convb_hd shl8_hd or_hd lw16 lsh16 lwh or_wd shl16_wd
set_option maxHeartbeats 400000 in
theorem appshort_any (base : Nat) (q : List (BitVec 8)) (n : BitVec 16) (v : Value) (w : World) (h : w.ownsRow base 5 1 v q.length (bytesV q)) (hb : base ≤ w.heap.size) (hl : q.length ≤ 1000) :
    Calls Try.prog 22 #[v, .int .u16 (hd n)] w fun e w' => ∃ v', e = .returned v' ∧ w'.ownsRow base 5 1 v' (q.length + 2) (bytesV (q ++ two n)) ∧ Below base w w' := by
  obtain ⟨m, hm⟩ : ∃ m, q.length = m := ⟨_, rfl⟩
  rw [hm] at h hl ⊢
  clear hm
  obtain ⟨C, hC⟩ : ∃ C, (#[.int .u8 (bd (n.setWidth 8)), .int .u8 (bd ((n >>> 8).setWidth 8))] : Array Value) = C := ⟨_, rfl⟩
  have HR4 : Hid (Slice (w.alloc (.cells #[.int .u8 (bd (n.setWidth 8)), .int .u8 (bd ((n >>> 8).setWidth 8))] 5)) (.slice (some ⟨w.heap.size, 0, none⟩) 2 2) (two n)) := Lib.hid (row_slice (Row.fresh w 5 (bs (two n))) (c := 2) (Nat.le_refl _))
  have HO4 := Lib.hid (h.alloc (.cells #[.int .u8 (bd (n.setWidth 8)), .int .u8 (bd ((n >>> 8).setWidth 8))] 5))
  have HB2 := Lib.hid ((Below.refl base w).alloc hb (.cells #[.int .u8 (bd (n.setWidth 8)), .int .u8 (bd ((n >>> 8).setWidth 8))] 5))
  have HB4 := Lib.hid (Nat.le_trans hb HB2.out.size)
  clear h hb hC
  go_enter Try.func22, Try.ntmps22
  go_wp2_with (at_builtin; refine wpList_append_slice rfl (.tmp 5) (.tmp 11) rfl base _ m _ rfl HO4.out (some ⟨w.heap.size, 0, none⟩) 2 2 _ rfl HR4.out (fun h => by cases h) (by omega) HB4.out ?_; intro v6 w6 own6 hb6; rw [← bytesV_apps] at own6; have HO6 := Lib.hid own6; have HB6 := Lib.hid (HB2.out.trans hb6); clear own6 hb6)
  go_ret
  exact ⟨_, rfl, HO6.out, HB6.out⟩
set_option maxHeartbeats 400000 in
theorem applong_any (base : Nat) (q : List (BitVec 8)) (n : BitVec 32) (v : Value) (w : World) (h : w.ownsRow base 5 1 v q.length (bytesV q)) (hb : base ≤ w.heap.size) (hl : q.length ≤ 900) :
    Calls Try.prog 21 #[v, .int .u32 (wd n)] w fun e w' => ∃ v', e = .returned v' ∧ w'.ownsRow base 5 1 v' (q.length + 4) (bytesV (q ++ four n)) ∧ Below base w w' := by
  have C1 := appshort_any base q (n.setWidth 16) v w h hb (by omega)
  have HB := Lib.hid hb
  have HL := Lib.hid hl
  clear h hb hl
  go_enter Try.func21, Try.ntmps21
  go_wp2_with fail
  refine C1.mono ?_
  rintro e w1 ⟨v1, rfl, h1, b1⟩
  clear C1
  have C2 := appshort_any base (q ++ two (n.setWidth 16)) ((n >>> 16).setWidth 16) v1 w1 (by rw [List.length_append]; exact h1) (Nat.le_trans HB.out b1.size) (by rw [List.length_append]; have := HL.out; show q.length + 2 ≤ 1000; omega)
  have B1 := Lib.hid b1
  clear h1 b1
  go_wp2_with fail
  refine C2.mono ?_
  rintro e w2 ⟨v2, rfl, h2, b2⟩
  clear C2
  rw [List.append_assoc, List.length_append] at h2
  have H2 := Lib.hid h2
  have B2 := Lib.hid (B1.out.trans b2)
  clear h2 b2
  go_wp2_with fail
  go_ret
  exact ⟨_, rfl, H2.out, B2.out⟩
set_option maxHeartbeats 800000 in
theorem short_any (g o len c : Nat) (t : TypeId) (q : List (BitVec 8)) (w : World) (hR : Row w g t (bs q)) (ha : o + 2 ≤ q.length) (hl : 2 ≤ len) :
    Calls Try.prog 31 #[.slice (some ⟨g, o, none⟩) len c] w fun e w' => e = .returned (.int .u16 (hd (sv o q))) ∧ Below w.heap.size w w' := by
  have hl0 : (0 : Int) < (len : Int) := by omega
  have hl1 : (1 : Int) < (len : Int) := by omega
  have hn0 : 0 < len := by omega
  have hn1 : 1 < len := by omega
  have H0 : Hid (o < q.length) := Lib.hid (by omega)
  have H1 : Hid (o + 1 < q.length) := Lib.hid (by omega)
  clear ha hl
  have hF0 : Wl [fun W => Below w.heap.size w W ∧ Row W g t (bs q)] 0 w.drew := ⟨(Below.refl _ _).drew, hR⟩
  clear hR
  go_enter Try.func31, Try.ntmps31
  go_upto_region 1 with fail
  refine wp_region_phs [is (.slice (some ⟨g, o, none⟩) len c), is (.pointer (some ⟨g, o, none⟩)), is (.int .u8 (bd (q.getD o 0#8))), is (.int .u16 (hd ((q.getD o 0#8).setWidth 16))), is (.slice (some ⟨g, o, none⟩) len c), is (.pointer (some ⟨g, o + 1, none⟩)), is (.int .u8 (bd (q.getD (o + 1) 0#8))), is (.int .u16 (hd ((q.getD (o + 1) 0#8).setWidth 16))), is (.int .u16 (hd (((q.getD (o + 1) 0#8).setWidth 16) <<< 8))), is (.int .u16 (hd (sv o q))), is (.int .u16 (hd (sv o q)))] [true, true, true, true, true, true, true, true, true, true, true] [(fun W => Below w.heap.size w W ∧ Row W g t (bs q))] [false, false, false, false, false, false, false, false, false, false, false] [some 0, some 0, some 0, some 0, some 0, some 0, some 0, some 0, some 0, some 0, some 0] [some 3, some 4, some 5, some 6, some 7, some 8, some 9, some 10, some 11, some 12, some 2] 11 0 (fun _ => true) rfl rfl (by kernel_rfl) (by kernel_rfl) (by kernel_rfl) (by kernel_rfl) ?_ ?_ ?_ ?_ ?_ ?_
  · repeat first | exact wok_nil | refine wok_cons (by first | exact fun _ _ h k => ⟨h.1.trans (k.mono h.1.size), h.2.call k⟩) ?_
  · repeat first | exact vok_nil | refine vok_rig (by first | exact fun _ _ _ h => h) ?_ | refine vok_soft (by first | exact fun _ _ _ h _ => h) ?_
  · exact hF0
  · repeat first | exact all_end (by decide) | refine all_cons (by first | exact rfl | exact ⟨rfl, fun _ _ h => Or.inl h⟩ | exact ⟨rfl, fun _ _ h => Or.inr ⟨h, rfl⟩⟩) ?_
  · refine allp_mild 0 rfl rfl rfl (fun a x W hout hin hP => ?_) ?_
    · have e0 : a.tmps[0]? = some (.slice (some ⟨g, o, none⟩) len c) := (hout 0 (by kernel_rfl)).trans rfl
      exact does_move rfl e0 ⟨Same.refl _, rfl⟩
    refine allp_mild 0 rfl rfl rfl (fun a x W hout hin hP => ?_) ?_
    · have e3 := hin.is 0 3 (by kernel_rfl) (by decide) (by kernel_rfl) (by kernel_rfl) _ rfl
      clear hin hout
      intro K Q hK
      go_simp
      exact hK _ _ ⟨Same.refl _, rfl⟩
    refine allp_mild 0 rfl rfl rfl (fun a x W hout hin hP => ?_) ?_
    · have e4 := hin.is 1 4 (by kernel_rfl) (by decide) (by kernel_rfl) (by kernel_rfl) _ rfl
      have hc := hP.2.get (i := o) (get_bs q o H0.out)
      clear hP
      clear hin hout
      intro K Q hK
      go_simp
      exact hK _ _ ⟨Same.refl _, rfl⟩
    refine allp_mild 0 rfl rfl rfl (fun a x W hout hin hP => ?_) ?_
    · have e5 := hin.is 2 5 (by kernel_rfl) (by decide) (by kernel_rfl) (by kernel_rfl) _ rfl
      clear hin hout
      intro K Q hK
      go_simp
      exact hK _ _ ⟨Same.refl _, rfl⟩
    refine allp_mild 0 rfl rfl rfl (fun a x W hout hin hP => ?_) ?_
    · have e0 : a.tmps[0]? = some (.slice (some ⟨g, o, none⟩) len c) := (hout 0 (by kernel_rfl)).trans rfl
      exact does_move rfl e0 ⟨Same.refl _, rfl⟩
    refine allp_mild 0 rfl rfl rfl (fun a x W hout hin hP => ?_) ?_
    · have e7 := hin.is 4 7 (by kernel_rfl) (by decide) (by kernel_rfl) (by kernel_rfl) _ rfl
      clear hin hout
      intro K Q hK
      go_simp
      exact hK _ _ ⟨Same.refl _, rfl⟩
    refine allp_mild 0 rfl rfl rfl (fun a x W hout hin hP => ?_) ?_
    · have e8 := hin.is 5 8 (by kernel_rfl) (by decide) (by kernel_rfl) (by kernel_rfl) _ rfl
      have hc := hP.2.get (i := o + 1) (get_bs q (o + 1) H1.out)
      clear hP
      clear hin hout
      intro K Q hK
      go_simp
      exact hK _ _ ⟨Same.refl _, rfl⟩
    refine allp_mild 0 rfl rfl rfl (fun a x W hout hin hP => ?_) ?_
    · have e9 := hin.is 6 9 (by kernel_rfl) (by decide) (by kernel_rfl) (by kernel_rfl) _ rfl
      clear hin hout
      intro K Q hK
      go_simp
      exact hK _ _ ⟨Same.refl _, rfl⟩
    refine allp_mild 0 rfl rfl rfl (fun a x W hout hin hP => ?_) ?_
    · have e10 := hin.is 7 10 (by kernel_rfl) (by decide) (by kernel_rfl) (by kernel_rfl) _ rfl
      clear hin hout
      intro K Q hK
      go_simp
      exact hK _ _ ⟨Same.refl _, rfl⟩
    refine allp_mild 0 rfl rfl rfl (fun a x W hout hin hP => ?_) ?_
    · have e6 := hin.is 3 6 (by kernel_rfl) (by decide) (by kernel_rfl) (by kernel_rfl) _ rfl
      have e11 := hin.is 8 11 (by kernel_rfl) (by decide) (by kernel_rfl) (by kernel_rfl) _ rfl
      clear hin hout
      intro K Q hK
      go_simp
      exact hK _ _ ⟨Same.refl _, rfl⟩
    refine allp_mild 0 rfl rfl rfl (fun a x W hout hin hP => ?_) ?_
    · have e12 := hin.is 9 12 (by kernel_rfl) (by decide) (by kernel_rfl) (by kernel_rfl) _ rfl
      exact does_assign rfl e12 ⟨Same.refl _, rfl⟩
    exact all_end (by decide)
  · intro x W hP hV
    have hb := hP.1
    have h10 : x 10 = .int .u16 (hd (sv o q)) := hV 10 (by decide) (.inl (by kernel_rfl))
    clear hP hV
    simp only [putL, Act.put, List.setIfInBounds_toArray, List.set_cons_succ, List.set_cons_zero, h10]
    refine wpAnyH_done (by kernel_rfl) ?_ _
    clear h10
    go_wp2_with fail
    go_ret
    exact ⟨rfl, hb⟩
set_option maxHeartbeats 800000 in
theorem long_any (g o len c : Nat) (t : TypeId) (q : List (BitVec 8)) (w : World) (hR : Row w g t (bs q)) (ha : o + 4 ≤ q.length) (hl : 4 ≤ len) (hc : len ≤ c) :
    Calls Try.prog 25 #[.slice (some ⟨g, o, none⟩) len c] w fun e w' => e = .returned (.int .u32 (wd (lv o q))) ∧ Below w.heap.size w w' := by
  have hl2 : (2 : Int) ≤ (len : Int) := by omega
  have hc2 : (len : Int) ≤ (c : Int) := by omega
  have hcc : (2 : Int) ≤ (c : Int) := by omega
  have hne : ¬ c = 2 := by omega
  have hn2 : 2 ≤ len := by omega
  have hn3 : 2 ≤ c := by omega
  have H0 : Hid (o + 2 ≤ q.length ∧ 2 ≤ len) := Lib.hid ⟨by omega, by omega⟩
  have H2 : Hid (o + 2 + 2 ≤ q.length ∧ 2 ≤ len - 2) := Lib.hid ⟨by omega, by omega⟩
  clear ha hl hc
  have hF0 : Wl [fun W => Below w.heap.size w W ∧ Row W g t (bs q)] 0 w.drew := ⟨(Below.refl _ _).drew, hR⟩
  clear hR
  go_enter Try.func25, Try.ntmps25
  go_upto_region 1 with fail
  refine wp_region_phs [is (.slice (some ⟨g, o, none⟩) len c), is (.int .u16 (hd (sv o q))), is (.int .u32 (wd ((sv o q).setWidth 32))), is (.slice (some ⟨g, o, none⟩) len c), is (.slice (some ⟨g, o + 2, none⟩) (len - 2) (c - 2)), is (.int .u16 (hd (sv (o + 2) q))), is (.int .u32 (wd ((sv (o + 2) q).setWidth 32))), is (.int .u32 (wd (((sv (o + 2) q).setWidth 32) <<< 16))), is (.int .u32 (wd (lv o q))), is (.int .u32 (wd (lv o q)))] [true, true, true, true, true, true, true, true, true, true] [(fun W => Below w.heap.size w W ∧ Row W g t (bs q))] [false, false, false, false, false, false, false, false, false, false] [some 0, some 0, some 0, some 0, some 0, some 0, some 0, some 0, some 0, some 0] [some 3, some 4, some 5, some 6, some 7, some 8, some 9, some 10, some 11, some 2] 10 0 (fun _ => true) rfl rfl (by kernel_rfl) (by kernel_rfl) (by kernel_rfl) (by kernel_rfl) ?_ ?_ ?_ ?_ ?_ ?_
  · repeat first | exact wok_nil | refine wok_cons (by first | exact fun _ _ h k => ⟨h.1.trans (k.mono h.1.size), h.2.call k⟩) ?_
  · repeat first | exact vok_nil | refine vok_rig (by first | exact fun _ _ _ h => h) ?_ | refine vok_soft (by first | exact fun _ _ _ h _ => h) ?_
  · exact hF0
  · repeat first | exact all_end (by decide) | refine all_cons (by first | exact rfl | exact ⟨rfl, fun _ _ h => Or.inl h⟩ | exact ⟨rfl, fun _ _ h => Or.inr ⟨h, rfl⟩⟩) ?_
  · refine allp_mild 0 rfl rfl rfl (fun a x W hout hin hP => ?_) ?_
    · have e0 : a.tmps[0]? = some (.slice (some ⟨g, o, none⟩) len c) := (hout 0 (by kernel_rfl)).trans rfl
      exact does_move rfl e0 ⟨Same.refl _, rfl⟩
    refine allp_mild 0 rfl rfl rfl (fun a x W hout hin hP => ?_) ?_
    · have e3 := hin.is 0 3 (by kernel_rfl) (by decide) (by kernel_rfl) (by kernel_rfl) _ rfl
      have C := short_any g o len c t q W hP.2 H0.out.1 H0.out.2
      clear hP
      clear hin hout
      intro K Q hK
      go_simp
      refine C.mono ?_
      rintro e W' ⟨rfl, hb⟩
      exact hK _ _ ⟨hb, rfl⟩
    refine allp_mild 0 rfl rfl rfl (fun a x W hout hin hP => ?_) ?_
    · have e4 := hin.is 1 4 (by kernel_rfl) (by decide) (by kernel_rfl) (by kernel_rfl) _ rfl
      clear hin hout
      intro K Q hK
      go_simp
      exact hK _ _ ⟨Same.refl _, rfl⟩
    refine allp_mild 0 rfl rfl rfl (fun a x W hout hin hP => ?_) ?_
    · have e0 : a.tmps[0]? = some (.slice (some ⟨g, o, none⟩) len c) := (hout 0 (by kernel_rfl)).trans rfl
      exact does_move rfl e0 ⟨Same.refl _, rfl⟩
    refine allp_mild 0 rfl rfl rfl (fun a x W hout hin hP => ?_) ?_
    · have e6 := hin.is 3 6 (by kernel_rfl) (by decide) (by kernel_rfl) (by kernel_rfl) _ rfl
      clear hin hout
      intro K Q hK
      go_simp
      exact hK _ _ ⟨Same.refl _, rfl⟩
    refine allp_mild 0 rfl rfl rfl (fun a x W hout hin hP => ?_) ?_
    · have e7 := hin.is 4 7 (by kernel_rfl) (by decide) (by kernel_rfl) (by kernel_rfl) _ rfl
      have C := short_any g (o + 2) (len - 2) (c - 2) t q W hP.2 H2.out.1 H2.out.2
      clear hP
      clear hin hout
      intro K Q hK
      go_simp
      refine C.mono ?_
      rintro e W' ⟨rfl, hb⟩
      exact hK _ _ ⟨hb, rfl⟩
    refine allp_mild 0 rfl rfl rfl (fun a x W hout hin hP => ?_) ?_
    · have e8 := hin.is 5 8 (by kernel_rfl) (by decide) (by kernel_rfl) (by kernel_rfl) _ rfl
      clear hin hout
      intro K Q hK
      go_simp
      exact hK _ _ ⟨Same.refl _, rfl⟩
    refine allp_mild 0 rfl rfl rfl (fun a x W hout hin hP => ?_) ?_
    · have e9 := hin.is 6 9 (by kernel_rfl) (by decide) (by kernel_rfl) (by kernel_rfl) _ rfl
      clear hin hout
      intro K Q hK
      go_simp
      exact hK _ _ ⟨Same.refl _, rfl⟩
    refine allp_mild 0 rfl rfl rfl (fun a x W hout hin hP => ?_) ?_
    · have e5 := hin.is 2 5 (by kernel_rfl) (by decide) (by kernel_rfl) (by kernel_rfl) _ rfl
      have e10 := hin.is 7 10 (by kernel_rfl) (by decide) (by kernel_rfl) (by kernel_rfl) _ rfl
      clear hin hout
      intro K Q hK
      go_simp
      exact hK _ _ ⟨Same.refl _, rfl⟩
    refine allp_mild 0 rfl rfl rfl (fun a x W hout hin hP => ?_) ?_
    · have e11 := hin.is 8 11 (by kernel_rfl) (by decide) (by kernel_rfl) (by kernel_rfl) _ rfl
      exact does_assign rfl e11 ⟨Same.refl _, rfl⟩
    exact all_end (by decide)
  · intro x W hP hV
    have hb := hP.1
    have h10 : x 9 = .int .u32 (wd (lv o q)) := hV 9 (by decide) (.inl (by kernel_rfl))
    clear hP hV
    simp only [putL, Act.put, List.setIfInBounds_toArray, List.set_cons_succ, List.set_cons_zero, h10]
    refine wpAnyH_done (by kernel_rfl) ?_ _
    clear h10
    go_wp2_with fail
    go_ret
    exact ⟨rfl, hb⟩
theorem le4 (v : BitVec 32) : le v 4 = [(v.setWidth 16).setWidth 8, ((v.setWidth 16) >>> 8).setWidth 8, ((v >>> 16).setWidth 16).setWidth 8, (((v >>> 16).setWidth 16) >>> 8).setWidth 8] := by
  have e : le v 4 = [(v >>> (8 * 0)).setWidth 8, (v >>> (8 * 1)).setWidth 8, (v >>> (8 * 2)).setWidth 8, (v >>> (8 * 3)).setWidth 8] := rfl
  rw [e]
  have := v.isLt
  have h0 : (v >>> (8 * 0)).setWidth 8 = (v.setWidth 16).setWidth 8 := BitVec.eq_of_toNat_eq (by simp only [BitVec.toNat_setWidth, BitVec.toNat_ushiftRight, Nat.shiftRight_eq_div_pow]; omega)
  have h1 : (v >>> (8 * 1)).setWidth 8 = ((v.setWidth 16) >>> 8).setWidth 8 := BitVec.eq_of_toNat_eq (by simp only [BitVec.toNat_setWidth, BitVec.toNat_ushiftRight, Nat.shiftRight_eq_div_pow]; omega)
  have h2 : (v >>> (8 * 2)).setWidth 8 = ((v >>> 16).setWidth 16).setWidth 8 := BitVec.eq_of_toNat_eq (by simp only [BitVec.toNat_setWidth, BitVec.toNat_ushiftRight, Nat.shiftRight_eq_div_pow]; omega)
  have h3 : (v >>> (8 * 3)).setWidth 8 = (((v >>> 16).setWidth 16) >>> 8).setWidth 8 := BitVec.eq_of_toNat_eq (by simp only [BitVec.toNat_setWidth, BitVec.toNat_ushiftRight, Nat.shiftRight_eq_div_pow]; omega)
  rw [h0, h1, h2, h3]
theorem le2 (d : BitVec 16) : le (d.setWidth 32) 2 = [d.setWidth 8, (d >>> 8).setWidth 8] := by
  have e : le (d.setWidth 32) 2 = [((d.setWidth 32) >>> (8 * 0)).setWidth 8, ((d.setWidth 32) >>> (8 * 1)).setWidth 8] := rfl
  rw [e]
  have := d.isLt
  have h0 : ((d.setWidth 32) >>> (8 * 0)).setWidth 8 = d.setWidth 8 := BitVec.eq_of_toNat_eq (by simp only [BitVec.toNat_setWidth, BitVec.toNat_ushiftRight, Nat.shiftRight_eq_div_pow]; omega)
  have h1 : ((d.setWidth 32) >>> (8 * 1)).setWidth 8 = (d >>> 8).setWidth 8 := BitVec.eq_of_toNat_eq (by simp only [BitVec.toNat_setWidth, BitVec.toNat_ushiftRight, Nat.shiftRight_eq_div_pow]; omega)
  rw [h0, h1]
theorem num2 (x y : BitVec 8) : (num [x, y]).setWidth 16 = x.setWidth 16 ||| (y.setWidth 16) <<< 8 := by
  have e := (halves ((num [x, y]).setWidth 16) x y).1
  refine (e ⟨?_, ?_⟩).symm
  · apply BitVec.eq_of_toNat_eq
    simp only [num, List.foldr_cons, List.foldr_nil, BitVec.toNat_setWidth, BitVec.toNat_add, BitVec.toNat_shiftLeft, Nat.shiftLeft_eq, BitVec.toNat_ofNat]
    have := x.isLt; have := y.isLt; omega
  · apply BitVec.eq_of_toNat_eq
    simp only [num, List.foldr_cons, List.foldr_nil, BitVec.toNat_setWidth, BitVec.toNat_ushiftRight, Nat.shiftRight_eq_div_pow, BitVec.toNat_add, BitVec.toNat_shiftLeft, Nat.shiftLeft_eq, BitVec.toNat_ofNat]
    have := x.isLt; have := y.isLt; omega
theorem num22 (a b : BitVec 16) : (a.setWidth 32 ||| (b.setWidth 32) <<< 16).toNat = b.toNat * 65536 + a.toNat := by
  have ha := a.isLt; have hb := b.isLt
  rw [BitVec.toNat_or, BitVec.toNat_shiftLeft, BitVec.toNat_setWidth, BitVec.toNat_setWidth, Nat.mod_eq_of_lt (show a.toNat < 2 ^ 32 by omega), Nat.mod_eq_of_lt (show b.toNat < 2 ^ 32 by omega),
    Nat.mod_eq_of_lt (show b.toNat <<< 16 < 2 ^ 32 by rw [Nat.shiftLeft_eq]; omega), Nat.or_comm, ← Nat.shiftLeft_add_eq_or_of_lt (show a.toNat < 2 ^ 16 by omega), Nat.shiftLeft_eq]
theorem num2N (x y : BitVec 8) : (x.setWidth 16 ||| (y.setWidth 16) <<< 8).toNat = y.toNat * 256 + x.toNat := by
  rw [← num2]
  simp only [num, List.foldr_cons, List.foldr_nil, BitVec.toNat_setWidth, BitVec.toNat_add, BitVec.toNat_shiftLeft, Nat.shiftLeft_eq, BitVec.toNat_ofNat]
  have := x.isLt; have := y.isLt; omega
theorem num4w (x y z u : BitVec 8) : (x.setWidth 16 ||| (y.setWidth 16) <<< 8).setWidth 32 ||| ((z.setWidth 16 ||| (u.setWidth 16) <<< 8).setWidth 32) <<< 16 = num [x, y, z, u] := by
  apply BitVec.eq_of_toNat_eq
  rw [num22, num2N, num2N]
  simp only [num, List.foldr_cons, List.foldr_nil, BitVec.toNat_setWidth, BitVec.toNat_add, BitVec.toNat_shiftLeft, Nat.shiftLeft_eq, BitVec.toNat_ofNat]
  have := x.isLt; have := y.isLt; have := z.isLt; have := u.isLt; omega
theorem piece4 (q : List (BitVec 8)) (o : Nat) (h : o + 4 ≤ q.length) : (q.drop o).take 4 = [q.getD o 0#8, q.getD (o + 1) 0#8, q.getD (o + 2) 0#8, q.getD (o + 2 + 1) 0#8] := by
  have g : ∀ k, o + k < q.length → q.getD (o + k) 0#8 = (q.drop o).getD k 0#8 := fun k hk => by rw [List.getD_eq_getElem?_getD, List.getD_eq_getElem?_getD, List.getElem?_drop]
  have hl : 4 ≤ (q.drop o).length := by rw [List.length_drop]; omega
  rw [show q.getD o 0#8 = q.getD (o + 0) 0#8 from rfl, show o + 2 + 1 = o + 3 from rfl, g 0 (by omega), g 1 (by omega), g 2 (by omega), g 3 (by omega)]
  match q.drop o, hl with
  | a :: b :: c :: d :: r, _ => rfl
theorem piece2 (q : List (BitVec 8)) (o : Nat) (h : o + 2 ≤ q.length) : (q.drop o).take 2 = [q.getD o 0#8, q.getD (o + 1) 0#8] := by
  have g : ∀ k, o + k < q.length → q.getD (o + k) 0#8 = (q.drop o).getD k 0#8 := fun k hk => by rw [List.getD_eq_getElem?_getD, List.getD_eq_getElem?_getD, List.getElem?_drop]
  have hl : 2 ≤ (q.drop o).length := by rw [List.length_drop]; omega
  rw [show q.getD o 0#8 = q.getD (o + 0) 0#8 from rfl, g 0 (by omega), g 1 (by omega)]
  match q.drop o, hl with
  | a :: b :: r, _ => rfl
theorem four_le (v : BitVec 32) : four v = le v 4 := by rw [le4]; rfl
theorem two_le (d : BitVec 16) : two d = le (d.setWidth 32) 2 := by rw [le2]; rfl
theorem lv_num (q : List (BitVec 8)) (o : Nat) (h : o + 4 ≤ q.length) : lv o q = num ((q.drop o).take 4) := by rw [piece4 q o h]; exact num4w _ _ _ _
theorem sv_num (q : List (BitVec 8)) (o : Nat) (h : o + 2 ≤ q.length) : sv o q = (num ((q.drop o).take 2)).setWidth 16 := by rw [piece2 q o h, num2]; rfl
theorem two_or (x y : BitVec 8) : two (x.setWidth 16 ||| (y.setWidth 16) <<< 8) = [x, y] := by
  obtain ⟨h1, h2⟩ := (halves (x.setWidth 16 ||| (y.setWidth 16) <<< 8) x y).2 rfl
  unfold two; rw [h1, h2]
theorem low16 (a b : BitVec 16) : (a.setWidth 32 ||| (b.setWidth 32) <<< 16).setWidth 16 = a := by
  apply BitVec.eq_of_toNat_eq
  rw [BitVec.toNat_setWidth, num22]
  have := a.isLt; omega
theorem high16 (a b : BitVec 16) : ((a.setWidth 32 ||| (b.setWidth 32) <<< 16) >>> 16).setWidth 16 = b := by
  apply BitVec.eq_of_toNat_eq
  rw [BitVec.toNat_setWidth, BitVec.toNat_ushiftRight, num22, Nat.shiftRight_eq_div_pow]
  have := a.isLt; have := b.isLt; omega
theorem le_lv (q : List (BitVec 8)) (o : Nat) (h : o + 4 ≤ q.length) : le (lv o q) 4 = (q.drop o).take 4 := by
  rw [← four_le, piece4 q o h]
  unfold four lv
  rw [low16, high16]
  unfold sv
  rw [two_or, two_or]; rfl
theorem le_sv (q : List (BitVec 8)) (o : Nat) (h : o + 2 ≤ q.length) : le ((sv o q).setWidth 32) 2 = (q.drop o).take 2 := by
  rw [← two_le, piece2 q o h]
  unfold sv
  rw [two_or]
end Go.Proofs.Ytamofhjnpahamaa

/- Replies: what they are, their bytes, plainly. No function of the program is named here. -/
set_option maxRecDepth 4000
namespace Go.Proofs.Ytamofhjnpahamaa
open Go Go.RowKit
def byteZ (z : Int) : BitVec 8 := BitVec.ofInt 8 z
def wordZ (z : Int) : BitVec 32 := BitVec.ofInt 32 z
def mayR (i e : Int) (n : Nat) : Bool := decide (0 ≤ i) && decide (i ≤ 2147483647) && decide (0 ≤ e) && decide (e ≤ 255) && decide (n ≤ 255)
def repH (i e : Int) (d : List (BitVec 8)) : List (BitVec 8) := four (wordZ i) ++ [byteZ e, byteZ d.length] ++ d
def repB (i e : Int) (d : List (BitVec 8)) : List (BitVec 8) := repH i e d ++ two (crcOf (repH i e d))
def repCells (i e : Int) (u : Value) : Array Value := #[.int .i64 i, .int .i64 e, u]
theorem length_repH (i e : Int) (d : List (BitVec 8)) : (repH i e d).length = 6 + d.length := by unfold repH four two; simp; omega
theorem length_repB (i e : Int) (d : List (BitVec 8)) : (repB i e d).length = 8 + d.length := by unfold repB; rw [List.length_append, length_repH]; simp [two]; omega
theorem wordZ_wrap (z : Int) : IntKind.u32.wrap z = wd (wordZ z) := by
  rw [IntKind.wrap_u32']; unfold wd wordZ; rw [BitVec.toNat_ofInt]; omega
theorem mayR_of {i e : Int} {n : Nat} (h : mayR i e n = true) : 0 ≤ i ∧ i ≤ 2147483647 ∧ 0 ≤ e ∧ e ≤ 255 ∧ n ≤ 255 := by
  unfold mayR at h
  simp only [Bool.and_eq_true, decide_eq_true_eq] at h
  exact ⟨h.1.1.1.1, h.1.1.1.2, h.1.1.2, h.1.2, h.2⟩
theorem mayR_no {i e : Int} {n : Nat} (h : mayR i e n = false) : ¬ (0 ≤ i ∧ i ≤ 2147483647 ∧ 0 ≤ e ∧ e ≤ 255 ∧ n ≤ 255) := fun ⟨h1, h2, h3, h4, h5⟩ => by
  unfold mayR at h
  rw [decide_eq_true h1, decide_eq_true h2, decide_eq_true h3, decide_eq_true h4, decide_eq_true h5] at h
  cases h
end Go.Proofs.Ytamofhjnpahamaa

/- Replies as they lie in memory: a slice of replies, opened, taken apart, laid. No function of the program is named here. -/
set_option maxRecDepth 4000
namespace Go.Proofs.Ytamofhjnpahamaa
open Go Go.ChangeShapes Go.WideShapes Go.ChangeAt Go.RowKit
abbrev Rp := Int × Int × List (BitVec 8)
def rdRep : Rd Rp := rdMap (fun x => (x.1, x.2.1, x.2.2.1)) (rdCons 1 (rdInt .i64) (rdCons 1 (rdInt .i64) (rdCons 1 (rdSl 1 rdU8) rdNil)))
def RepsAt (w : World) (v : Value) (l : List Rp) : Prop := rdSl 3 rdRep w [v] l
theorem stays_rep : rdRep.Stays := stays_map (stays_cons' (stays_int _) (stays_cons' (stays_int _) (stays_cons' (stays_sl stays_u8) stays_rnil)))
theorem RepsAt.below {w w' : World} {v : Value} {l : List Rp} {B : Nat} (h : RepsAt w v l) (hb : Below B w w') (hB : w.heap.size ≤ B) : RepsAt w' v l := stays_sl stays_rep B w w' _ _ h hb hB
theorem item_rdSl {w : World} {u : Value} {q : List (BitVec 8)} (h : Item w u q) : rdSl 1 rdU8 w [u] q := by
  obtain ⟨A, c, rfl, ⟨A', c', e, h2, h3⟩, h4, h5⟩ := h
  injection e with e1 _ e3
  subst e1 e3
  refine ⟨A, c, rfl, h2, h4, h5, fun hne => ?_⟩
  obtain ⟨b, o, h6, h7, h8⟩ := h3 hne
  refine ⟨b, o, h6, h7, fun k x hx => ⟨[.int .u8 (bd x)], rfl, fun j v hv => ?_, rfl⟩⟩
  cases j with
  | zero => cases hv; simpa using h8 k x hx
  | succ j => simp at hv
theorem int_wf {z : Int} (h0 : -9223372036854775808 ≤ z) (h1 : z < 9223372036854775808) : (Lit.int .i64 z).wf = true := by
  have h2 : IntKind.i64.min = -9223372036854775808 := by decide
  have h3 : IntKind.i64.max = 9223372036854775807 := by decide
  simp only [Lit.wf, Bool.and_eq_true, decide_eq_true_eq]
  omega
/- one reply's cells -/
def RepAt (w : World) (ds : List Value) (x : Rp) : Prop := ∃ A c, ds = [.int .i64 x.1, .int .i64 x.2.1, .slice A x.2.2.length c] ∧ Item w (.slice A x.2.2.length c) x.2.2 ∧ -9223372036854775808 ≤ x.1 ∧ x.1 < 9223372036854775808 ∧ -9223372036854775808 ≤ x.2.1 ∧ x.2.1 < 9223372036854775808
theorem rep_cells {w : World} {ds : List Value} {x : Rp} (h : rdRep w ds x) : RepAt w ds x := by
  obtain ⟨⟨i, e, d, _⟩, h, rfl⟩ := h
  obtain ⟨c0, d0, rfl, _, ⟨rfl, hi⟩, c1, d1, rfl, _, ⟨rfl, he⟩, c2, d2, rfl, _, h3, h4⟩ := h
  have h4 : d2 = [] := h4
  subst h4
  have hi := int_i64 hi
  have he := int_i64 he
  obtain ⟨A, c, rfl, _⟩ := id h3
  exact ⟨A, c, rfl, rdSl_item h3, hi.1, hi.2, he.1, he.2⟩
theorem rep_rd {w : World} {ds : List Value} {x : Rp} (h : RepAt w ds x) : rdRep w ds x := by
  obtain ⟨A, c, rfl, h1, h2, h3, h4, h5⟩ := h
  exact ⟨(x.1, x.2.1, x.2.2, ()), ⟨_, _, rfl, rfl, ⟨rfl, int_wf h2 h3⟩, _, _, rfl, rfl, ⟨rfl, int_wf h4 h5⟩, _, [], rfl, rfl, item_rdSl h1, rfl⟩, rfl⟩
theorem RepAt.below {w w' : World} {ds : List Value} {x : Rp} {B : Nat} (h : RepAt w ds x) (hb : Below B w w') (hB : w.heap.size ≤ B) : RepAt w' ds x := rep_cells (stays_rep B w w' _ _ (rep_rd h) hb hB)
theorem item_lit {w : World} {A : Option Addr} {n c : Nat} {q : List (BitVec 8)} (h : Slice w (.slice A n c) q) (hA : A = none → c = 0) (hn : n ≤ maxLen) : Item w (.slice A n c) q := by
  obtain ⟨A', c', e, h2, h3⟩ := id h
  injection e with e1 e2 e3
  subst e1 e2 e3
  exact ⟨_, _, rfl, h, hA, hn⟩
theorem rep_at {w : World} {i e : Int} {A : Option Addr} {n c : Nat} {q : List (BitVec 8)} (h : Slice w (.slice A n c) q) (hA : A = none → c = 0) (hn : n ≤ maxLen) (h1 : -9223372036854775808 ≤ i) (h2 : i < 9223372036854775808) (h3 : -9223372036854775808 ≤ e) (h4 : e < 9223372036854775808) : RepAt w [.int .i64 i, .int .i64 e, .slice A n c] (i, e, q) := by
  obtain ⟨A', c', e', _, _⟩ := id h
  injection e' with e1 e2 e3
  subst e1 e2 e3
  exact ⟨A, c, rfl, item_lit h hA hn, h1, h2, h3, h4⟩
/- one of several -/
theorem reps_get {w : World} {A : Option Addr} {n c : Nat} {l : List Rp} (h : RepsAt w (.slice A n c) l) {k : Nat} (hk : k < l.length) :
    ∃ b o i e B m c' d, l[k]? = some (i, e, d) ∧ A = some ⟨b, o, none⟩ ∧ b < w.heap.size ∧ w.rangeAt b (o + k * 3) [.int .i64 i, .int .i64 e, .slice B m c'] ∧ Slice w (.slice B m c') d ∧ d.length = m ∧ (B = none → c' = 0) ∧ m ≤ maxLen ∧ -9223372036854775808 ≤ i ∧ i < 9223372036854775808 ∧ -9223372036854775808 ≤ e ∧ e < 9223372036854775808 := by
  obtain ⟨A', c', e1, _, _, _, h5⟩ := h
  have e1 : Value.slice A n c = .slice A' l.length c' := by simpa using e1
  injection e1 with e1 _ _
  subst e1
  obtain ⟨b, o, h6, h7, h8⟩ := h5 (by rintro rfl; simp at hk)
  obtain ⟨x, hx⟩ : ∃ x, l[k]? = some x := ⟨_, List.getElem?_eq_getElem hk⟩
  obtain ⟨ds, _, h10, h11⟩ := h8 k x hx
  obtain ⟨B, c2, rfl, ⟨B2, c3, e3, hs, hA, hn⟩, a1, a2, a3, a4⟩ := rep_cells h11
  injection e3 with e3 _ e4
  subst e3 e4
  obtain ⟨i, e, d⟩ := x
  exact ⟨b, o, i, e, B, _, c2, d, hx, h6, h7, h10, hs, rfl, hA, hn, a1, a2, a3, a4⟩
theorem reps_len {w : World} {A : Option Addr} {n c : Nat} {l : List Rp} (h : RepsAt w (.slice A n c) l) : l.length = n := by
  obtain ⟨A', c', e1, _⟩ := h
  have e1 : Value.slice A n c = .slice A' l.length c' := by simpa using e1
  injection e1 with _ e1 _
  exact e1.symm
theorem reps_data {w : World} {A : Option Addr} {n c : Nat} {l : List Rp} (h : RepsAt w (.slice A n c) l) : ∀ x ∈ l, x.2.2.length ≤ maxLen := fun x hx => by
  obtain ⟨k, hk, e⟩ := List.getElem_of_mem hx
  obtain ⟨b, o, i, e', B, m, c', d, h1, _, _, _, _, h2, _, h3, _⟩ := reps_get h hk
  rw [List.getElem?_eq_getElem hk, e] at h1
  cases h1
  rw [h2]; exact h3
/- a block of replies of one's own -/
theorem reps_row {w : World} {g c : Nat} {t : TypeId} {cs : Array Value} {l : List Rp} (h : Row w g t cs) (hc : l.length ≤ c) (hm : l.length ≤ maxLen) (hl : ∀ k x, l[k]? = some x → RepAt w ((cs.toList.drop (k * 3)).take 3) x) : RepsAt w (.slice (some ⟨g, 0, none⟩) l.length c) l :=
  ⟨_, c, rfl, hc, fun h => (by cases h), hm, fun _ => ⟨g, 0, rfl, h.lt, fun k x hx => ⟨(cs.toList.drop (k * 3)).take 3, by
    obtain ⟨A, c, e, _⟩ := hl k x hx
    rw [e]; rfl, fun j v hv => by
    rw [Nat.zero_add]
    refine h.get ?_
    obtain ⟨hj, _⟩ := List.getElem?_eq_some_iff.1 hv
    rw [← Array.getElem?_toList]
    rw [List.length_take] at hj
    rw [List.getElem?_take_of_lt (by omega), List.getElem?_drop] at hv
    exact hv, rep_rd (hl k x hx)⟩⟩⟩
theorem reps_none (w : World) : RepsAt w (.slice none 0 0) [] := ⟨none, 0, rfl, Nat.le_refl _, fun _ => rfl, by decide, fun h => absurd rfl h⟩
/- a part of it -/
theorem reps_part {w : World} {b o n c : Nat} {l : List Rp} (h : RepsAt w (.slice (some ⟨b, o, none⟩) n c) l) (i j c' : Nat) (hij : i ≤ j) (hj : j ≤ n) (hc : j - i ≤ c') : RepsAt w (.slice (some ⟨b, o + i * 3, none⟩) (j - i) c') ((l.take j).drop i) := by
  have hln := reps_len h
  have hlen : ((l.take j).drop i).length = j - i := by rw [List.length_drop, List.length_take]; omega
  obtain ⟨A', c2, e1, h2, h3, h4, h5⟩ := h
  have e1 : Value.slice (some ⟨b, o, none⟩) n c = .slice A' l.length c2 := by simpa using e1
  injection e1 with e1 _ _
  subst e1
  refine ⟨_, c', by rw [hlen], by rw [hlen]; exact hc, fun h => (by cases h), by rw [hlen]; omega, fun hne => ?_⟩
  obtain ⟨b2, o2, h6, h7, h8⟩ := h5 (by rintro rfl; simp at hne)
  injection h6 with h6
  injection h6 with h6 h6'
  subst h6 h6'
  refine ⟨b, o + i * 3, rfl, h7, fun k x hx => ?_⟩
  have hk : k < j - i := by have := (List.getElem?_eq_some_iff.1 hx).1; omega
  rw [List.getElem?_drop, List.getElem?_take_of_lt (by omega)] at hx
  obtain ⟨ds, h9, h10, h11⟩ := h8 (i + k) x hx
  exact ⟨ds, h9, by rw [show o + i * 3 + k * 3 = o + (i + k) * 3 by omega]; exact h10, h11⟩
/- an argument that is a slice of replies; one that is a reply -/
theorem cellsI64r : Try.prog.cellsOf 3 = 1 := by kernel_rfl
theorem cellsErr : Try.prog.cellsOf 27 = 1 := by kernel_rfl
theorem cellsU8r : Try.prog.cellsOf 5 = 1 := by kernel_rfl
theorem cellsBytes : Try.prog.cellsOf 23 = 1 := by kernel_rfl
theorem cellsRep : Try.prog.cellsOf 31 = 3 := by kernel_rfl
theorem opens_rep : Opens Try.prog 31 rdRep :=
  opens_map (opens_struct Try.underlying31 (by kernel_rfl) (opensF_cons rfl cellsI64r (opens_int Try.underlying3) (opensF_cons rfl cellsErr (opens_int Try.underlying27) (opensF_cons rfl cellsBytes (opens_sl Try.underlying23 cellsU8r (by decide) (opens_u8 Try.underlying5)) opensF_nil))))
theorem opens_reps : Opens Try.prog 22 (rdSl 3 rdRep) := opens_sl Try.underlying22 cellsRep (by decide) opens_rep
theorem open_rep {H : Type} {enc : TypeId × Value → H} {W : World} {r : Reach} {base : Nat} {v : Value} {d : DataW H} {ps : List MemPlace} (hval : Value.okWide Try.prog W r base 31 v)
    (h : DataW.Trod enc Try.prog W 0 (fun _ => true) true 31 v d ps) (hlt : ∀ x ∈ ps, x.block < W.heap.size) :
    ∃ i e A n c q, v = .agg (repCells i e (.slice A n c)) ∧ Slice W (.slice A n c) q ∧ q.length = n ∧ (A = none → c = 0) ∧ n ≤ maxLen ∧ -9223372036854775808 ≤ i ∧ i < 9223372036854775808 ∧ -9223372036854775808 ≤ e ∧ e < 9223372036854775808 := by
  obtain ⟨cs, ⟨i, e, q⟩, rfl, hx⟩ := open_argRec Try.underlying31 opens_rep hval h hlt
  obtain ⟨A, c, rfl, ⟨A2, c2, e2, hs, hA, hn⟩, a1, a2, a3, a4⟩ := rep_cells hx
  injection e2 with e2 _ e3
  subst e2 e3
  exact ⟨i, e, A, _, c, q, rfl, hs, rfl, hA, hn, a1, a2, a3, a4⟩
theorem open_reps {H : Type} {enc : TypeId × Value → H} {W : World} {r : Reach} {base : Nat} {v : Value} {d : DataW H} {ps : List MemPlace} (hval : Value.okWide Try.prog W r base 22 v)
    (h : DataW.Trod enc Try.prog W 0 (fun _ => true) true 22 v d ps) (hlt : ∀ x ∈ ps, x.block < W.heap.size) :
    ∃ A n c l, v = .slice A n c ∧ RepsAt W (.slice A n c) l ∧ n ≤ maxLen := by
  obtain ⟨A, c, l, e, hx⟩ := open_argSl Try.underlying22 opens_reps hval h hlt
  obtain ⟨_, _, _, _, _, h4, _⟩ := id hx
  exact ⟨A, _, c, l, e, hx, h4⟩
end Go.Proofs.Ytamofhjnpahamaa

/- The program's reply: may there be such a reply; its bytes. -/
set_option maxRecDepth 4000
namespace Go.Proofs.Ytamofhjnpahamaa
open Go Go.RowKit
theorem size_rep : (Try.prog.info? 31).map (·.size) = some 3 := by kernel_rfl
set_option maxHeartbeats 1600000 in
theorem mayr_any (i e : Int) (A : Option Addr) (n c : Nat) (w : World) : Calls Try.prog 20 #[.agg (repCells i e (.slice A n c))] w fun x w' => x = .returned (.bool (mayR i e n)) ∧ Below w.heap.size w w' := by
  have HY := Lib.hid (@mayR_of i e n)
  have HN := Lib.hid (@mayR_no i e n)
  obtain ⟨G, hG⟩ : ∃ G, mayR i e n = G := ⟨_, rfl⟩
  rw [hG] at HY HN ⊢
  clear hG
  have HS := St.nil w noF
  go_enter Try.func20, Try.ntmps20
  go_upto_region 1 with (first | ((with_reducible refine wpList_plain ?_ ?_); exact rfl; intro KK hKK; refine wp_st_box HS 31 (.tmp 0) rfl _ rfl (repCells i e (.slice A n c)) (rfl) (fun g1 W1 HSx => hKK _ _ ?_); clear hKK KK HS; have HS : St w noF [⟨g1, 31, repCells i e (.slice A n c)⟩] W1 := HSx; clear HSx))
  have c0 : W1.cell? ⟨g1, 0, none⟩ = some (.int .i64 i) := (HS.row 0 rfl).get rfl
  have c1 : W1.cell? ⟨g1, 1, none⟩ = some (.int .i64 e) := (HS.row 0 rfl).get rfl
  have c2 : W1.cell? ⟨g1, 2, none⟩ = some (.slice A n c) := (HS.row 0 rfl).get rfl
  have HB := Lib.hid HS.below
  clear HS
  by_cases h0 : i < 0
  · have d0 : decide (0 ≤ i) = false := decide_eq_false (by omega)
    have hG : G = false := by cases G with | false => rfl | true => (have := HY.out rfl; omega)
    go_wp2_with fail
    go_ret
    first | exact ⟨rfl, HB.out⟩ | (rw [hG]; exact ⟨rfl, HB.out⟩)
  have d0 : decide (0 ≤ i) = true := decide_eq_true (by omega)
  by_cases h1 : 2147483647 < i
  · have d1 : decide (i ≤ 2147483647) = false := decide_eq_false (by omega)
    have hG : G = false := by cases G with | false => rfl | true => (have := HY.out rfl; omega)
    go_wp2_with fail
    go_ret
    first | exact ⟨rfl, HB.out⟩ | (rw [hG]; exact ⟨rfl, HB.out⟩)
  have d1 : decide (i ≤ 2147483647) = true := decide_eq_true (by omega)
  by_cases h2 : e < 0
  · have d2 : decide (0 ≤ e) = false := decide_eq_false (by omega)
    have hG : G = false := by cases G with | false => rfl | true => (have := HY.out rfl; omega)
    go_wp2_with fail
    go_ret
    first | exact ⟨rfl, HB.out⟩ | (rw [hG]; exact ⟨rfl, HB.out⟩)
  have d2 : decide (0 ≤ e) = true := decide_eq_true (by omega)
  by_cases h3 : 255 < e
  · have d3 : decide (e ≤ 255) = false := decide_eq_false (by omega)
    have hG : G = false := by cases G with | false => rfl | true => (have := HY.out rfl; omega)
    go_wp2_with fail
    go_ret
    first | exact ⟨rfl, HB.out⟩ | (rw [hG]; exact ⟨rfl, HB.out⟩)
  have d3 : decide (e ≤ 255) = true := decide_eq_true (by omega)
  by_cases h4 : 255 < n
  · have d4 : decide ((n : Int) ≤ 255) = false := decide_eq_false (by omega)
    have d4' : ¬ n ≤ 255 := by omega
    have hG : G = false := by cases G with | false => rfl | true => (have := HY.out rfl; omega)
    go_wp2_with fail
    go_ret
    first | exact ⟨rfl, HB.out⟩ | (rw [hG]; exact ⟨rfl, HB.out⟩)
  have d4 : decide ((n : Int) ≤ 255) = true := decide_eq_true (by omega)
  have d4' : n ≤ 255 := by omega
  have hG : G = true := by cases G with | true => rfl | false => exact (HN.out rfl ⟨by omega, by omega, by omega, by omega, by omega⟩).elim
  go_wp2_with fail
  go_ret
  first | exact ⟨rfl, HB.out⟩ | (rw [hG]; exact ⟨rfl, HB.out⟩)
set_option maxHeartbeats 800000 in
theorem repenc_bad (i e : Int) (A : Option Addr) (n c : Nat) (w : World) (hc : mayR i e n = false) : Calls Try.prog 10 #[.agg (repCells i e (.slice A n c))] w fun x w' => x = .returned (.tuple #[.slice none 0 0, .int .i64 11]) ∧ Below w.heap.size w w' := by
  have C := Lib.hid (fun W => mayr_any i e A n c W)
  rw [hc] at C
  clear hc
  have HS := St.nil w noF
  go_enter Try.func10, Try.ntmps10
  go_upto_region 1 with (first | ((with_reducible refine wpList_plain ?_ ?_); exact rfl; intro KK hKK; refine wp_st_box HS 31 (.tmp 0) rfl _ rfl (repCells i e (.slice A n c)) (rfl) (fun g1 W1 HSx => hKK _ _ ?_); clear hKK KK HS; have HS : St w noF [⟨g1, 31, repCells i e (.slice A n c)⟩] W1 := HSx; clear HSx))
  go_wp2_with (first | ((with_reducible refine wpList_plain ?_ ?_); exact rfl; intro KK hKK; refine wp_st_load HS 0 0 31 (.tmp 1) rfl rfl rfl (repCells i e (.slice A n c)) (slab_whole _) _ Try.underlying31 rfl (by exact size_rep) (hKK _ _ ?_); clear hKK KK))
  refine (C.out _).mono ?_
  rintro x w1 ⟨rfl, hb⟩
  have HSx := HS.same hb
  clear HS hb C
  go_wp2_with fail
  go_ret2
  exact ⟨rfl, HSx.below⟩
set_option maxHeartbeats 1600000 in
theorem repenc_good (i e : Int) (A : Option Addr) (n c : Nat) (d : List (BitVec 8)) (hd : d.length = n) (w : World) (hs : Slice w (.slice A n c) d) (hA : A = none → c = 0) (hc : mayR i e n = true) :
    Calls Try.prog 10 #[.agg (repCells i e (.slice A n c))] w fun x w' => ∃ v, x = .returned (.tuple #[v, .int .i64 0]) ∧ w'.ownsRow w.heap.size 5 1 v (repB i e d).length (bytesV (repB i e d)) ∧ Below w.heap.size w w' := by
  have C := Lib.hid (fun W => mayr_any i e A n c W)
  rw [hc] at C
  obtain ⟨_, _, _, _, hn⟩ := mayR_of hc
  have HN := Lib.hid hn
  have HD := Lib.hid hd
  have HSL := Lib.hid hs
  have HA := Lib.hid hA
  clear hc hd hs hA hn
  have HS := St.nil w noF
  go_enter Try.func10, Try.ntmps10
  go_upto_region 1 with (first | ((with_reducible refine wpList_plain ?_ ?_); exact rfl; intro KK hKK; refine wp_st_box HS 31 (.tmp 0) rfl _ rfl (repCells i e (.slice A n c)) (rfl) (fun g1 W1 HSx => hKK _ _ ?_); clear hKK KK HS; have HS : St w noF [⟨g1, 31, repCells i e (.slice A n c)⟩] W1 := HSx; clear HSx))
  go_wp2_with (first | ((with_reducible refine wpList_plain ?_ ?_); exact rfl; intro KK hKK; refine wp_st_load HS 0 0 31 (.tmp 1) rfl rfl rfl (repCells i e (.slice A n c)) (slab_whole _) _ Try.underlying31 rfl (by exact size_rep) (hKK _ _ ?_); clear hKK KK))
  refine (C.out _).mono ?_
  rintro x w1 ⟨rfl, hb⟩
  have HSW := Lib.hid (HS.same hb)
  clear HS hb C
  obtain ⟨B0, hB0⟩ : ∃ B0, w1.heap.size = B0 := ⟨_, rfl⟩
  have HB0 := Lib.hid hB0
  have c0 : w1.cell? ⟨g1, 0, none⟩ = some (.int .i64 i) := (HSW.out.row 0 rfl).get rfl
  have hw0 := wordZ_wrap i
  have CL := applong_any B0 [] (wordZ i) (.slice none 0 0) w1 (World.ownsRow_nil _ _ _ _) (Nat.le_of_eq hB0.symm) (by decide)
  clear hB0
  go_wp2_with fail
  refine CL.mono ?_
  rintro x w2 ⟨v2, rfl, h2, b2⟩
  have HB2 := Lib.hid b2
  have HO2 : Hid (w2.ownsRow B0 5 1 v2 4 (bytesV (four (wordZ i)))) := Lib.hid h2
  clear CL c0 hw0 h2 b2
  have HS2 := HSW.out.same (by rw [HB0.out]; exact HB2.out)
  have c1 : w2.cell? ⟨g1, 1, none⟩ = some (.int .i64 e) := (HS2.row 0 rfl).get rfl
  have c2 : w2.cell? ⟨g1, 2, none⟩ = some (.slice A n c) := (HS2.row 0 rfl).get rfl
  have hw1 : IntKind.u8.wrap e = bd (byteZ e) := wrap_u8_bd e
  have hw2 : IntKind.u8.wrap (n : Int) = bd (byteZ (n : Int)) := wrap_u8_bd _
  have HP : Hid (Slice (w2.alloc (.cells #[.int .u8 (bd (byteZ e)), .int .u8 (bd (byteZ (n : Int)))] 5)) (.slice (some ⟨w2.heap.size, 0, none⟩) 2 2) [byteZ e, byteZ (n : Int)]) := Lib.hid (row_slice (Row.fresh w2 5 (bs [byteZ e, byteZ (n : Int)])) (c := 2) (Nat.le_refl _))
  have HO := Lib.hid (HO2.out.alloc (.cells #[.int .u8 (bd (byteZ e)), .int .u8 (bd (byteZ (n : Int)))] 5))
  have HB3 := Lib.hid (HB2.out.alloc (by rw [← HB0.out]; exact HB2.out.size) (.cells #[.int .u8 (bd (byteZ e)), .int .u8 (bd (byteZ (n : Int)))] 5))
  clear HS2 HO2
  go_upto_region 5 with (at_builtin; refine wpList_append_slice rfl (.tmp 12) (.tmp 20) rfl B0 _ 4 _ rfl HO.out (some ⟨w2.heap.size, 0, none⟩) 2 2 _ rfl HP.out (fun h => by cases h) (by decide) (Nat.le_trans (Nat.le_of_eq HB0.out.symm) HB3.out.size) ?_; intro v4 w4 own4 hb4; rw [← bytesV_apps] at own4; have HO4 := Lib.hid own4; have HB4 := Lib.hid (HB3.out.trans hb4); clear own4 hb4 HO HP HB3 c1 c2 hw1 hw2)
  have HS4 := HSW.out.same (by rw [HB0.out]; exact HB4.out)
  have c2 : w4.cell? ⟨g1, 2, none⟩ = some (.slice A n c) := (HS4.row 0 rfl).get rfl
  have hsl := HSL.out.below HS4.below (Nat.le_refl _)
  have hn9 := HN.out
  clear HS4 HB2
  go_upto_region 6 with (at_builtin; refine wpList_append_slice rfl (.tmp 22) (.tmp 24) rfl B0 _ 6 _ rfl HO4.out A n c d rfl hsl HA.out (by omega) (Nat.le_trans (Nat.le_of_eq HB0.out.symm) HB4.out.size) ?_; intro v5 w5 own5 hb5; rw [← bytesV_apps] at own5; have HO5 := Lib.hid own5; have HB5 := Lib.hid (HB4.out.trans hb5); clear own5 hb5 HO4 HB4 c2 hsl)
  have HEQ : Hid (four (wordZ i) ++ [byteZ e, byteZ (n : Int)] ++ d = repH i e d) := Lib.hid (by unfold repH; rw [HD.out])
  have hLH : (repH i e d).length = 6 + n := by rw [length_repH, HD.out]
  have own5 := HO5.out
  rw [HEQ.out, ← hLH] at own5
  have hs5 := own_slice own5
  obtain ⟨A5, c5, rfl, hc5⟩ := own_slice_form own5
  rw [hLH] at hs5 hc5 own5 ⊢
  have hb6 := HB5.out.alloc (by rw [← HB0.out]; exact HB5.out.size) (.cells #[.slice A5 (6 + n) c5] 23)
  have own6 := own5.alloc (.cells #[.slice A5 (6 + n) c5] 23)
  have CK := check_any [repH i e d] _ _ (parts1 hs5) (by simp [maxLen]) (by simp [hLH, maxLen]; omega)
  rw [List.flatten_cons, List.flatten_nil, List.append_nil] at CK
  obtain ⟨w6, hw6⟩ : ∃ w6, w5.alloc (.cells #[.slice A5 (6 + n) c5] 23) = w6 := ⟨_, rfl⟩
  rw [hw6] at hb6 own6 CK
  clear hs5 HO5 HEQ own5
  obtain ⟨K, hK⟩ : ∃ K, crcOf (repH i e d) = K := ⟨_, rfl⟩
  rw [hK] at CK
  have CS := appshort_any B0 (repH i e d) K _ w6 (by rw [hLH]; exact own6) (Nat.le_trans (Nat.le_of_eq HB0.out.symm) hb6.size) (by rw [hLH]; omega)
  have HB6 := Lib.hid hb6
  have HKB : Hid (repH i e d ++ two K = repB i e d) := Lib.hid (by unfold repB; rw [hK])
  have HLB := Lib.hid (length_repB i e d)
  have HLH := Lib.hid hLH
  clear hb6 own6 hK hLH hn9
  go_wp2_with fail
  refine CK.mono ?_
  rintro x w7 ⟨rfl, rfl⟩
  clear CK
  go_wp2_with fail
  refine CS.mono ?_
  rintro x w8 ⟨v8, rfl, h8, b8⟩
  rw [HKB.out, HLH.out] at h8
  have HO8 := Lib.hid h8
  have HB8 := Lib.hid (HB6.out.trans b8)
  clear CS h8 b8
  go_wp2_with fail
  go_ret2
  have hz : w.heap.size ≤ B0 := by rw [← HB0.out]; exact HSW.out.below.size
  refine ⟨_, rfl, ?_, HSW.out.below.trans (HB8.out.mono hz)⟩
  rw [HLB.out, HD.out]
  exact own_base (by rw [show 8 + n = 6 + n + 2 by omega]; exact HO8.out) hz
end Go.Proofs.Ytamofhjnpahamaa

/- Are replies fair? The program's Join of any replies; the law's fair. -/
set_option maxRecDepth 4000
namespace Go.Proofs.Ytamofhjnpahamaa
open Go Go.RowKit
def fairR (l : List Rp) : Bool := decide (∀ x ∈ l, x.2.2.length ≤ 600) && decide (l.length ≤ 20)
theorem fairR_of {l : List Rp} (h : fairR l = true) : (∀ x ∈ l, x.2.2.length ≤ 600) ∧ l.length ≤ 20 := by
  unfold fairR at h
  simpa only [Bool.and_eq_true, decide_eq_true_eq] using h
set_option maxHeartbeats 800000 in
theorem fairrep_any (A : Option Addr) (n c : Nat) (l : List Rp) (w : World) (h : RepsAt w (.slice A n c) l) (hn : n ≤ maxLen) :
    Calls Try.prog 7 #[.slice A n c] w fun e w' => e = .returned (.bool (fairR l)) ∧ w = w' := by
  have hln := reps_len h
  have HF := Lib.hid (fun k (hk : k < l.length) => reps_get h hk)
  obtain ⟨G, hG⟩ : ∃ G, fairR l = G := ⟨_, rfl⟩
  have HALL : Hid ((∀ j < n, ∀ x, l[j]? = some x → x.2.2.length ≤ 600) → G = decide (n ≤ 20)) := Lib.hid fun h => by
    rw [← hG]; unfold fairR
    rw [decide_eq_true (p := ∀ x ∈ l, x.2.2.length ≤ 600) (fun x hx => by
      obtain ⟨j, hj, e⟩ := List.getElem_of_mem hx
      exact h j (by omega) x (by rw [List.getElem?_eq_getElem hj, e])), hln]; rfl
  have HNO : Hid (∀ (k : Nat) (x : Rp), l[k]? = some x → 600 < x.2.2.length → G = false) := Lib.hid fun k x hx h => by
    rw [← hG]; unfold fairR
    rw [decide_eq_false (p := ∀ x ∈ l, x.2.2.length ≤ 600) (fun e => by have := e x (List.mem_of_getElem? hx); omega)]; rfl
  have HL := Lib.hid hln
  have hn' : n ≤ 9223372036854775807 := by unfold maxLen at hn; omega
  rw [hG]
  clear h hG hln hn
  go_enter Try.func7, Try.ntmps7
  go_wp2_with fail
  go_loopw [3] (fun i wr => ∃ k : Nat, k ≤ n ∧ i = .int .i64 k ∧ Hid (∀ j < k, ∀ x, l[j]? = some x → x.2.2.length ≤ 600) ∧ w = wr) (fun i _ => n - (intOf i).toNat)
  case atStart => exact ⟨0, by omega, rfl, Lib.hid fun j hj => by omega, rfl⟩
  case round =>
    obtain ⟨k, hk, rfl, hE, rfl⟩ := hrel
    by_cases hlt : k < n
    · obtain ⟨b, o, i, e, B, m, c', d, hx, rfl, hb, hr, _, hm, _, hmm, _⟩ := HF.out k (by rw [HL.out]; exact hlt)
      obtain ⟨O, hO⟩ : ∃ O, o + k * 3 = O := ⟨_, rfl⟩
      rw [hO] at hr
      have c2 : w.cell? ⟨b, O + 2, none⟩ = some (.slice B m c') := hr 2 _ rfl
      have HX := Lib.hid hx
      have HM := Lib.hid hm
      have hmm' : m ≤ 9223372036854775807 := by unfold maxLen at hmm; omega
      clear hx hr hm hmm
      by_cases h6 : m ≤ 600
      · go_wp2_with fail
        refine ⟨⟨k + 1, by omega, by go_num, Lib.hid fun j hj x hjx => ?_, by first | rfl | trivial⟩, ?_⟩
        · by_cases hjk : j = k
          · subst hjk
            have := HX.out.symm.trans hjx
            injection this with this
            subst this
            have := HM.out
            show d.length ≤ 600
            omega
          · exact hE.out j (by omega) x hjx
        · simp [intOf]; omega
      · have hG := HNO.out k _ HX.out (by have := HM.out; show 600 < d.length; omega)
        go_wp2_with fail
        go_ret
        exact ⟨by first | (rw [hG]; done) | (rw [hG]; rfl), rfl⟩
    · obtain rfl : k = n := by omega
      have hG := HALL.out hE.out
      go_wp2_with fail
      go_ret
      exact ⟨by rw [hG]; first | rfl | (simp; omega), rfl⟩
/- the bytes of all, one behind the other -/
def okR (x : Rp) : Bool := mayR x.1 x.2.1 x.2.2.length
def bytR (x : Rp) : List (BitVec 8) := repB x.1 x.2.1 x.2.2
def jnB (l : List Rp) : List (BitVec 8) := if l.all okR then (l.map bytR).flatten else []
def jnE (l : List Rp) : Int := if l.all okR then 0 else 11
theorem okR_len {x : Rp} (h : okR x = true) : (bytR x).length = 8 + x.2.2.length ∧ x.2.2.length ≤ 255 := by
  obtain ⟨_, _, _, _, h5⟩ := mayR_of h
  exact ⟨length_repB _ _ _, h5⟩
theorem jn_len {l : List Rp} (h : ∀ x ∈ l, okR x = true) : (l.map bytR).flatten.length ≤ 263 * l.length := by
  induction l with
  | nil => simp
  | cons x l ih =>
    have h1 := okR_len (h x (List.mem_cons_self ..))
    have h2 := ih (fun y hy => h y (List.mem_cons_of_mem _ hy))
    rw [List.map_cons, List.flatten_cons, List.length_append, List.length_cons]
    omega
theorem rep_one (i e : Int) (A : Option Addr) (n c : Nat) : (Value.agg (repCells i e (.slice A n c))).cells.all (·.oneCell') = true := by simp [Value.cells, repCells, Value.oneCell']
theorem jn_take {l : List Rp} {k : Nat} {x : Rp} (h : l[k]? = some x) : ((l.take (k + 1)).map bytR).flatten = ((l.take k).map bytR).flatten ++ bytR x := by
  obtain ⟨hk, rfl⟩ := List.getElem?_eq_some_iff.1 h
  rw [List.take_add_one, List.getElem?_eq_getElem hk, List.map_append, List.flatten_append]
  simp only [Option.toList, List.map_cons, List.map_nil, List.flatten_cons, List.flatten_nil, List.append_nil]
set_option maxHeartbeats 1600000 in
theorem repjoin_any (A : Option Addr) (n c : Nat) (l : List Rp) (w : World) (h : RepsAt w (.slice A n c) l) (hn : n ≤ 1000000) :
    Calls Try.prog 13 #[.slice A n c] w fun e w' => ∃ v, e = .returned (.tuple #[v, .int .i64 (jnE l)]) ∧ w'.ownsRow w.heap.size 5 1 v (jnB l).length (bytesV (jnB l)) ∧ Below w.heap.size w w' := by
  have hln := reps_len h
  have HF := Lib.hid (fun k (hk : k < l.length) => reps_get h hk)
  obtain ⟨G, hG⟩ : ∃ G, jnE l = G := ⟨_, rfl⟩
  obtain ⟨J, hJ⟩ : ∃ J, jnB l = J := ⟨_, rfl⟩
  have HALL : Hid ((∀ j < n, ∀ x, l[j]? = some x → okR x = true) → G = 0 ∧ J = (l.map bytR).flatten) := Lib.hid fun h => by
    have ha : l.all okR = true := List.all_eq_true.2 fun x hx => by
      obtain ⟨j, hj, e⟩ := List.getElem_of_mem hx
      exact h j (by omega) x (by rw [List.getElem?_eq_getElem hj, e])
    rw [← hG, ← hJ]; unfold jnE jnB; rw [ha]; exact ⟨rfl, rfl⟩
  have HNO : Hid (∀ (k : Nat) (x : Rp), l[k]? = some x → okR x = false → G = 11 ∧ J = []) := Lib.hid fun k x hx h => by
    have ha : l.all okR = false := by
      cases hb : l.all okR with
      | false => rfl
      | true => rw [List.all_eq_true.1 hb x (List.mem_of_getElem? hx)] at h; cases h
    rw [← hG, ← hJ]; unfold jnE jnB; rw [ha]; exact ⟨rfl, rfl⟩
  have HL := Lib.hid hln
  have HSZ : Hid (∀ k, k ≤ n → (∀ j < k, ∀ x, l[j]? = some x → okR x = true) → ((l.take k).map bytR).flatten.length ≤ 263000000) := Lib.hid fun k hk h => by
    have h1 := jn_len (l := l.take k) (fun x hx => by
      obtain ⟨j, hj, e⟩ := List.getElem_of_mem hx
      rw [List.length_take] at hj
      refine h j (by omega) x ?_
      rw [← e, List.getElem_take, List.getElem?_eq_getElem])
    rw [List.length_take] at h1
    omega
  rw [hG, hJ]
  clear h hG hJ hln
  go_enter Try.func13, Try.ntmps13
  go_wp2_with fail
  go_loopw [4, 11] (fun v i wr => ∃ k : Nat, k ≤ n ∧ i = .int .i64 k ∧ Hid (∀ j < k, ∀ x, l[j]? = some x → okR x = true) ∧ wr.ownsRow w.heap.size 5 1 v ((l.take k).map bytR).flatten.length (bytesV ((l.take k).map bytR).flatten) ∧ Below w.heap.size w wr) (fun _ i _ => n - (intOf i).toNat)
  case atStart => exact ⟨0, by omega, rfl, Lib.hid fun j hj => by omega, World.ownsRow_nil _ _ _ _, Below.refl _ _⟩
  case round =>
    obtain ⟨k, hk, rfl, hE, hO, hB⟩ := hrel
    have HO := Lib.hid hO
    have HB := Lib.hid hB
    clear hO hB
    by_cases hlt : k < n
    · obtain ⟨b, o, i, e, B, m, c', d, hx, rfl, hb, hr, hs, hm, hA, hmm, _⟩ := HF.out k (by rw [HL.out]; exact hlt)
      obtain ⟨O, hO⟩ : ∃ O, o + k * 3 = O := ⟨_, rfl⟩
      rw [hO] at hr
      have HX := Lib.hid hx
      have HM := Lib.hid hm
      have HS0 := Lib.hid hs
      have HA := Lib.hid hA
      have HW := Lib.hid hb
      have HR : Hid (wr.rangeAt b O [.int .i64 i, .int .i64 e, .slice B m c']) := Lib.hid fun j v hv => (HB.out.cell (p := ⟨b, O + j, none⟩) hb).trans (hr j v hv)
      clear hx hr hs hm hA hmm hb
      have hBs := HB.out.size
      have HS := St.nil wr noF
      go_upto_region 5 with (first | ((with_reducible refine wpList_plain ?_ ?_); exact rfl; intro KK hKK; refine wp_load_mid 31 (.tmp 13) rfl b O rfl [.int .i64 i, .int .i64 e, .slice B m c'] _ HR.out Try.underlying31 rfl (by exact size_rep) (hKK _ _ ?_); clear hKK KK) | ((with_reducible refine wpList_plain ?_ ?_); exact rfl; intro KK hKK; refine wp_st_alloc HS 31 (repCells 0 0 (.slice none 0 0)) rfl (.agg (repCells 0 0 (.slice none 0 0))) (by kernel_rfl) (rfl) (fun g1 W1 HSx => hKK _ _ ?_); clear hKK KK HS; have HS : St wr noF [⟨g1, 31, repCells 0 0 (.slice none 0 0)⟩] W1 := HSx; clear HSx) | ((with_reducible refine wpList_plain ?_ ?_); exact rfl; intro KK hKK; refine wp_st_store HS 0 0 31 (.tmp 6) (.tmp 14) rfl rfl rfl (.agg (repCells i e (.slice B m c'))) rfl (by exact size_rep) (Nat.le_refl _) (rep_one ..) (repCells i e (.slice B m c')) (by exact spl_agg _ _ _ rfl rfl) (fun W2 HSx => hKK _ _ ?_); clear hKK KK HS; have HS : St wr noF [⟨g1, 31, repCells i e (.slice B m c')⟩] W2 := HSx; clear HSx))
      have HB2 := Lib.hid (HB.out.trans (HS.below.mono hBs))
      have hs2 := HS0.out.below HB2.out (Nat.le_refl _)
      have HO2 := Lib.hid (owns_call HO.out HS.below)
      have HS1 := Lib.hid HS.below.size
      clear HO
      cases hok : mayR i e m with
      | false =>
        have C := Lib.hid (repenc_bad i e B m c' W2 hok)
        obtain ⟨hG, hJ⟩ := HNO.out k _ HX.out (by unfold okR; rw [HM.out]; exact hok)
        clear hs2 hok
        go_wp2_with (first | ((with_reducible refine wpList_plain ?_ ?_); exact rfl; intro KK hKK; refine wp_st_load HS 0 0 31 (.tmp 6) rfl rfl rfl (repCells i e (.slice B m c')) (slab_whole _) _ Try.underlying31 rfl (by exact size_rep) (hKK _ _ ?_); clear hKK KK))
        refine C.out.mono ?_
        rintro x w3 ⟨rfl, hb3⟩
        clear C HS
        go_wp2_with fail
        go_ret2
        exact ⟨_, by first | (rw [hG]; done) | (rw [hG]; rfl), by rw [hJ]; exact World.ownsRow_nil _ _ _ _, HB2.out.trans (hb3.mono (Nat.le_trans hBs HS1.out))⟩
      | true =>
        have C := Lib.hid (repenc_good i e B m c' d HM.out W2 hs2 HA.out hok)
        have HOK : Hid (okR (i, e, d) = true) := Lib.hid (by unfold okR; rw [HM.out]; exact hok)
        clear hs2 hok
        go_wp2_with (first | ((with_reducible refine wpList_plain ?_ ?_); exact rfl; intro KK hKK; refine wp_st_load HS 0 0 31 (.tmp 6) rfl rfl rfl (repCells i e (.slice B m c')) (slab_whole _) _ Try.underlying31 rfl (by exact size_rep) (hKK _ _ ?_); clear hKK KK))
        refine C.out.mono ?_
        rintro x w3 ⟨v3, rfl, ho3, hb3⟩
        have HB3 := Lib.hid (HB2.out.trans (hb3.mono (Nat.le_trans hBs HS1.out)))
        have HO3 := Lib.hid (owns_call HO2.out hb3)
        have hsl := own_slice ho3
        have hnl := own_nil ho3
        obtain ⟨A3, c3, rfl, _⟩ := own_slice_form ho3
        have HE2 : Hid (∀ j < k + 1, ∀ x, l[j]? = some x → okR x = true) := Lib.hid fun j hj x hjx => by
          by_cases hjk : j = k
          · subst hjk
            have := HX.out.symm.trans hjx
            injection this with this
            subst this
            exact HOK.out
          · exact hE.out j (by omega) x hjx
        have hz1 := HSZ.out k hk hE.out
        have hz2 := okR_len HOK.out
        have hz3 : (repB i e d).length = 8 + d.length := hz2.1
        have hz4 : d.length ≤ 255 := hz2.2
        clear C HS ho3 hz2 HO2
        obtain ⟨L, hL⟩ : ∃ L, (repB i e d).length = L := ⟨_, rfl⟩
        rw [hL] at hz3 hsl hnl ⊢
        have hz5 : L ≤ 263 := by omega
        have HLL := Lib.hid hL
        clear hz3 hz4 hL
        obtain ⟨M, hM⟩ : ∃ M, ((l.take k).map bytR).flatten.length = M := ⟨_, rfl⟩
        rw [hM] at hz1 HO3
        have HMM := Lib.hid hM
        clear hM
        have HBs : w.heap.size ≤ w3.heap.size := HB3.out.size
        go_wp2_with (at_builtin; refine wpList_append_slice rfl (.tmp 23) (.tmp 24) rfl w.heap.size _ M _ rfl HO3.out A3 L c3 _ rfl hsl (fun h => hnl _ _ (by rw [h])) (by omega) HBs ?_; intro v5 w5 own5 hb5; rw [← bytesV_apps] at own5; have HO5 := Lib.hid own5; have HB5 := Lib.hid (HB3.out.trans hb5); clear own5 hb5 hsl hnl)
        refine ⟨⟨k + 1, by omega, by go_num, HE2, ?_, HB5.out⟩, by simp [intOf]; omega⟩
        have hj := jn_take HX.out
        rw [hj, List.length_append, HMM.out, show (bytR (i, e, d)).length = L from HLL.out]
        exact HO5.out
    · obtain rfl : k = n := by omega
      obtain ⟨hG, hJ⟩ := HALL.out hE.out
      have hT : l.take k = l := List.take_of_length_le (by rw [HL.out]; exact Nat.le_refl _)
      rw [hT, ← hJ] at HO
      go_wp2_with fail
      go_ret2
      exact ⟨_, by first | (rw [hG]; done) | (rw [hG]; rfl), HO.out, HB.out⟩
end Go.Proofs.Ytamofhjnpahamaa

/- Numbers that slices begin with, as the program's lowfirst reads them. -/
set_option maxRecDepth 4000
namespace Go.Proofs.Ytamofhjnpahamaa
open Go Go.RowKit
/- block g holds q from offset a on -/
structure BAt (w : World) (g o : Nat) (q : List (BitVec 8)) : Prop where
  lt : g < w.heap.size
  at_ : ∀ (j : Nat) (x : BitVec 8), q[j]? = some x → w.cell? ⟨g, o + j, none⟩ = some (.int .u8 (bd x))
theorem BAt.below {w w' : World} {g o B : Nat} {q : List (BitVec 8)} (h : BAt w g o q) (hb : Below B w w') (hg : g < B) : BAt w' g o q := ⟨Nat.lt_of_lt_of_le h.lt hb.size, fun j x hx => (hb.cell (p := ⟨g, o + j, none⟩) hg).trans (h.at_ j x hx)⟩
theorem BAt.call {w w' : World} {g o : Nat} {q : List (BitVec 8)} (h : BAt w g o q) (hb : Below w.heap.size w w') : BAt w' g o q := h.below hb h.lt
theorem BAt.get {w : World} {g o : Nat} {q : List (BitVec 8)} (h : BAt w g o q) (j : Nat) (hj : j < q.length) : w.cell? ⟨g, o + j, none⟩ = some (.int .u8 (bd (q.getD j 0#8))) :=
  h.at_ j _ (by rw [List.getD_eq_getElem?_getD, List.getElem?_eq_getElem hj]; rfl)
theorem BAt.drop {w : World} {g o : Nat} {q : List (BitVec 8)} (h : BAt w g o q) (k : Nat) : BAt w g (o + k) (q.drop k) := ⟨h.lt, fun j x hx => by
  rw [List.getElem?_drop] at hx
  rw [Nat.add_assoc]
  exact h.at_ (k + j) x hx⟩
theorem BAt.take {w : World} {g o : Nat} {q : List (BitVec 8)} (h : BAt w g o q) (k : Nat) : BAt w g o (q.take k) := ⟨h.lt, fun j x hx => by
  refine h.at_ j x ?_
  by_cases hj : j < k
  · rw [List.getElem?_take_of_lt hj] at hx; exact hx
  · rw [List.getElem?_eq_none (by rw [List.length_take]; omega)] at hx; cases hx⟩
theorem BAt.slice {w : World} {g o c : Nat} {q : List (BitVec 8)} (h : BAt w g o q) {n : Nat} (hn : q.length = n) (hc : n ≤ c) : Slice w (.slice (some ⟨g, o, none⟩) n c) q :=
  ⟨_, c, by rw [hn], by rw [hn]; exact hc, fun _ => ⟨g, o, rfl, h.lt, h.at_⟩⟩
theorem slice_bat {w : World} {A : Option Addr} {n c : Nat} {q : List (BitVec 8)} (h : Slice w (.slice A n c) q) (hq : 0 < q.length) : ∃ g o, A = some ⟨g, o, none⟩ ∧ BAt w g o q ∧ q.length ≤ c := by
  obtain ⟨A', c', e, h2, h3⟩ := h
  injection e with e1 _ e3
  subst e1 e3
  obtain ⟨g, o, h4, h5, h6⟩ := h3 (by intro e; rw [e] at hq; simp at hq)
  exact ⟨g, o, h4, ⟨h5, h6⟩, h2⟩
theorem Row.bat {w : World} {g : Nat} {t : TypeId} {q : List (BitVec 8)} (h : Row w g t (bs q)) : BAt w g 0 q := ⟨h.lt, fun j x hx => by rw [Nat.zero_add]; exact h.get (by simp [bs, hx])⟩
theorem i64_bd (x : BitVec 8) : IntKind.i64.wrap (bd x) = bd x := i64_id _ (by have := bd_lo x; omega) (by have := bd_hi x; omega)
theorem BAt.range {w : World} {g o : Nat} {q : List (BitVec 8)} (h : BAt w g o q) (k n : Nat) (_ : k + n ≤ q.length) : w.rangeAt g (o + k) (bytesV ((q.drop k).take n)) := fun j v hv => by
  simp only [bytesV, List.getElem?_map, Option.map_eq_some_iff] at hv
  obtain ⟨x, hx, rfl⟩ := hv
  exact ((h.drop k).take n).at_ j x hx
theorem BAt.far {w w' : World} {g o k : Nat} {q : List (BitVec 8)} (h : BAt w g o q) (hg : w.grownBy w' (some k)) (hne : g ≠ k) : BAt w' g o q :=
  ⟨Nat.lt_of_lt_of_le h.lt hg.size, fun j x hx => (hg.cell_far ⟨g, o + j, none⟩ h.lt (by simpa using hne)).trans (h.at_ j x hx)⟩
theorem slice_at {w : World} {g o n c : Nat} {q : List (BitVec 8)} (h : Slice w (.slice (some ⟨g, o, none⟩) n c) q) (hq : 0 < q.length) : BAt w g o q := by
  obtain ⟨g', o', e, hb, _⟩ := slice_bat h hq
  injection e with e
  injection e with e1 e2
  subst e1 e2
  exact hb
attribute [local go_sem] lowb_hd lowb8_hd convb_hd shl8_hd or_hd lw16 lsh16 lwh or_wd shl16_wd
set_option maxHeartbeats 800000 in
theorem short_at (g o len c : Nat) (q : List (BitVec 8)) (w : World) (hR : BAt w g o q) (ha : 2 ≤ q.length) (hl : 2 ≤ len) :
    Calls Try.prog 31 #[.slice (some ⟨g, o, none⟩) len c] w fun e w' => e = .returned (.int .u16 (hd (sv 0 q))) ∧ Below w.heap.size w w' := by
  have hl0 : (0 : Int) < (len : Int) := by omega
  have hl1 : (1 : Int) < (len : Int) := by omega
  have hn0 : 0 < len := by omega
  have hn1 : 1 < len := by omega
  have H0 : Hid (0 < q.length) := Lib.hid (by omega)
  have H1 : Hid (1 < q.length) := Lib.hid (by omega)
  clear ha hl
  have hF0 : Wl [fun W => Below w.heap.size w W ∧ BAt W g o q] 0 w.drew := ⟨(Below.refl _ _).drew, hR.call (Below.refl _ _).drew⟩
  clear hR
  go_enter Try.func31, Try.ntmps31
  go_upto_region 1 with fail
  refine wp_region_phs [is (.slice (some ⟨g, o, none⟩) len c), is (.pointer (some ⟨g, o, none⟩)), is (.int .u8 (bd (q.getD 0 0#8))), is (.int .u16 (hd ((q.getD 0 0#8).setWidth 16))), is (.slice (some ⟨g, o, none⟩) len c), is (.pointer (some ⟨g, o + 1, none⟩)), is (.int .u8 (bd (q.getD 1 0#8))), is (.int .u16 (hd ((q.getD 1 0#8).setWidth 16))), is (.int .u16 (hd (((q.getD 1 0#8).setWidth 16) <<< 8))), is (.int .u16 (hd (sv 0 q))), is (.int .u16 (hd (sv 0 q)))] [true, true, true, true, true, true, true, true, true, true, true] [(fun W => Below w.heap.size w W ∧ BAt W g o q)] [false, false, false, false, false, false, false, false, false, false, false] [some 0, some 0, some 0, some 0, some 0, some 0, some 0, some 0, some 0, some 0, some 0] [some 3, some 4, some 5, some 6, some 7, some 8, some 9, some 10, some 11, some 12, some 2] 11 0 (fun _ => true) rfl rfl (by kernel_rfl) (by kernel_rfl) (by kernel_rfl) (by kernel_rfl) ?_ ?_ ?_ ?_ ?_ ?_
  · repeat first | exact wok_nil | refine wok_cons (by first | exact fun _ _ h k => ⟨h.1.trans (k.mono h.1.size), h.2.call k⟩) ?_
  · repeat first | exact vok_nil | refine vok_rig (by first | exact fun _ _ _ h => h) ?_ | refine vok_soft (by first | exact fun _ _ _ h _ => h) ?_
  · exact hF0
  · repeat first | exact all_end (by decide) | refine all_cons (by first | exact rfl | exact ⟨rfl, fun _ _ h => Or.inl h⟩ | exact ⟨rfl, fun _ _ h => Or.inr ⟨h, rfl⟩⟩) ?_
  · refine allp_mild 0 rfl rfl rfl (fun a x W hout hin hP => ?_) ?_
    · have e0 : a.tmps[0]? = some (.slice (some ⟨g, o, none⟩) len c) := (hout 0 (by kernel_rfl)).trans rfl
      exact does_move rfl e0 ⟨Same.refl _, rfl⟩
    refine allp_mild 0 rfl rfl rfl (fun a x W hout hin hP => ?_) ?_
    · have e3 := hin.is 0 3 (by kernel_rfl) (by decide) (by kernel_rfl) (by kernel_rfl) _ rfl
      clear hin hout
      intro K Q hK
      go_simp
      exact hK _ _ ⟨Same.refl _, rfl⟩
    refine allp_mild 0 rfl rfl rfl (fun a x W hout hin hP => ?_) ?_
    · have e4 := hin.is 1 4 (by kernel_rfl) (by decide) (by kernel_rfl) (by kernel_rfl) _ rfl
      have hc : W.cell? ⟨g, o, none⟩ = some (.int .u8 (bd (q.getD 0 0#8))) := hP.2.get 0 H0.out
      clear hP
      clear hin hout
      intro K Q hK
      go_simp
      exact hK _ _ ⟨Same.refl _, rfl⟩
    refine allp_mild 0 rfl rfl rfl (fun a x W hout hin hP => ?_) ?_
    · have e5 := hin.is 2 5 (by kernel_rfl) (by decide) (by kernel_rfl) (by kernel_rfl) _ rfl
      clear hin hout
      intro K Q hK
      go_simp
      exact hK _ _ ⟨Same.refl _, rfl⟩
    refine allp_mild 0 rfl rfl rfl (fun a x W hout hin hP => ?_) ?_
    · have e0 : a.tmps[0]? = some (.slice (some ⟨g, o, none⟩) len c) := (hout 0 (by kernel_rfl)).trans rfl
      exact does_move rfl e0 ⟨Same.refl _, rfl⟩
    refine allp_mild 0 rfl rfl rfl (fun a x W hout hin hP => ?_) ?_
    · have e7 := hin.is 4 7 (by kernel_rfl) (by decide) (by kernel_rfl) (by kernel_rfl) _ rfl
      clear hin hout
      intro K Q hK
      go_simp
      exact hK _ _ ⟨Same.refl _, rfl⟩
    refine allp_mild 0 rfl rfl rfl (fun a x W hout hin hP => ?_) ?_
    · have e8 := hin.is 5 8 (by kernel_rfl) (by decide) (by kernel_rfl) (by kernel_rfl) _ rfl
      have hc : W.cell? ⟨g, o + 1, none⟩ = some (.int .u8 (bd (q.getD 1 0#8))) := hP.2.get 1 H1.out
      clear hP
      clear hin hout
      intro K Q hK
      go_simp
      exact hK _ _ ⟨Same.refl _, rfl⟩
    refine allp_mild 0 rfl rfl rfl (fun a x W hout hin hP => ?_) ?_
    · have e9 := hin.is 6 9 (by kernel_rfl) (by decide) (by kernel_rfl) (by kernel_rfl) _ rfl
      clear hin hout
      intro K Q hK
      go_simp
      exact hK _ _ ⟨Same.refl _, rfl⟩
    refine allp_mild 0 rfl rfl rfl (fun a x W hout hin hP => ?_) ?_
    · have e10 := hin.is 7 10 (by kernel_rfl) (by decide) (by kernel_rfl) (by kernel_rfl) _ rfl
      clear hin hout
      intro K Q hK
      go_simp
      exact hK _ _ ⟨Same.refl _, rfl⟩
    refine allp_mild 0 rfl rfl rfl (fun a x W hout hin hP => ?_) ?_
    · have e6 := hin.is 3 6 (by kernel_rfl) (by decide) (by kernel_rfl) (by kernel_rfl) _ rfl
      have e11 := hin.is 8 11 (by kernel_rfl) (by decide) (by kernel_rfl) (by kernel_rfl) _ rfl
      clear hin hout
      intro K Q hK
      go_simp
      exact hK _ _ ⟨Same.refl _, rfl⟩
    refine allp_mild 0 rfl rfl rfl (fun a x W hout hin hP => ?_) ?_
    · have e12 := hin.is 9 12 (by kernel_rfl) (by decide) (by kernel_rfl) (by kernel_rfl) _ rfl
      exact does_assign rfl e12 ⟨Same.refl _, rfl⟩
    exact all_end (by decide)
  · intro x W hP hV
    have hb := hP.1
    have h10 : x 10 = .int .u16 (hd (sv 0 q)) := hV 10 (by decide) (.inl (by kernel_rfl))
    clear hP hV
    simp only [putL, Act.put, List.setIfInBounds_toArray, List.set_cons_succ, List.set_cons_zero, h10]
    refine wpAnyH_done (by kernel_rfl) ?_ _
    clear h10
    go_wp2_with fail
    go_ret
    exact ⟨rfl, hb⟩
theorem sv_drop (q : List (BitVec 8)) : sv 0 (q.drop 2) = sv (0 + 2) q := by
  unfold sv
  simp [List.getD_eq_getElem?_getD, List.getElem?_drop]
set_option maxHeartbeats 800000 in
theorem long_at (g o len c : Nat) (q : List (BitVec 8)) (w : World) (hR : BAt w g o q) (ha : 4 ≤ q.length) (hl : 4 ≤ len) (hc : len ≤ c) :
    Calls Try.prog 25 #[.slice (some ⟨g, o, none⟩) len c] w fun e w' => e = .returned (.int .u32 (wd (lv 0 q))) ∧ Below w.heap.size w w' := by
  have hl2 : (2 : Int) ≤ (len : Int) := by omega
  have hc2 : (len : Int) ≤ (c : Int) := by omega
  have hcc : (2 : Int) ≤ (c : Int) := by omega
  have hne : ¬ c = 2 := by omega
  have hn2 : 2 ≤ len := by omega
  have hn3 : 2 ≤ c := by omega
  have HSV := Lib.hid (sv_drop q)
  have H0 : Hid (2 ≤ q.length ∧ 2 ≤ len) := Lib.hid ⟨by omega, by omega⟩
  have H2 : Hid (2 ≤ (q.drop 2).length ∧ 2 ≤ len - 2) := Lib.hid ⟨by rw [List.length_drop]; omega, by omega⟩
  clear ha hl hc
  have hF0 : Wl [fun W => Below w.heap.size w W ∧ BAt W g o q] 0 w.drew := ⟨(Below.refl _ _).drew, hR.call (Below.refl _ _).drew⟩
  clear hR
  go_enter Try.func25, Try.ntmps25
  go_upto_region 1 with fail
  refine wp_region_phs [is (.slice (some ⟨g, o, none⟩) len c), is (.int .u16 (hd (sv 0 q))), is (.int .u32 (wd ((sv 0 q).setWidth 32))), is (.slice (some ⟨g, o, none⟩) len c), is (.slice (some ⟨g, o + 2, none⟩) (len - 2) (c - 2)), is (.int .u16 (hd (sv (0 + 2) q))), is (.int .u32 (wd ((sv (0 + 2) q).setWidth 32))), is (.int .u32 (wd (((sv (0 + 2) q).setWidth 32) <<< 16))), is (.int .u32 (wd (lv 0 q))), is (.int .u32 (wd (lv 0 q)))] [true, true, true, true, true, true, true, true, true, true] [(fun W => Below w.heap.size w W ∧ BAt W g o q)] [false, false, false, false, false, false, false, false, false, false] [some 0, some 0, some 0, some 0, some 0, some 0, some 0, some 0, some 0, some 0] [some 3, some 4, some 5, some 6, some 7, some 8, some 9, some 10, some 11, some 2] 10 0 (fun _ => true) rfl rfl (by kernel_rfl) (by kernel_rfl) (by kernel_rfl) (by kernel_rfl) ?_ ?_ ?_ ?_ ?_ ?_
  · repeat first | exact wok_nil | refine wok_cons (by first | exact fun _ _ h k => ⟨h.1.trans (k.mono h.1.size), h.2.call k⟩) ?_
  · repeat first | exact vok_nil | refine vok_rig (by first | exact fun _ _ _ h => h) ?_ | refine vok_soft (by first | exact fun _ _ _ h _ => h) ?_
  · exact hF0
  · repeat first | exact all_end (by decide) | refine all_cons (by first | exact rfl | exact ⟨rfl, fun _ _ h => Or.inl h⟩ | exact ⟨rfl, fun _ _ h => Or.inr ⟨h, rfl⟩⟩) ?_
  · refine allp_mild 0 rfl rfl rfl (fun a x W hout hin hP => ?_) ?_
    · have e0 : a.tmps[0]? = some (.slice (some ⟨g, o, none⟩) len c) := (hout 0 (by kernel_rfl)).trans rfl
      exact does_move rfl e0 ⟨Same.refl _, rfl⟩
    refine allp_mild 0 rfl rfl rfl (fun a x W hout hin hP => ?_) ?_
    · have e3 := hin.is 0 3 (by kernel_rfl) (by decide) (by kernel_rfl) (by kernel_rfl) _ rfl
      have C := short_at g o len c q W hP.2 H0.out.1 H0.out.2
      clear hP
      clear hin hout
      intro K Q hK
      go_simp
      refine C.mono ?_
      rintro e W' ⟨rfl, hb⟩
      exact hK _ _ ⟨hb, rfl⟩
    refine allp_mild 0 rfl rfl rfl (fun a x W hout hin hP => ?_) ?_
    · have e4 := hin.is 1 4 (by kernel_rfl) (by decide) (by kernel_rfl) (by kernel_rfl) _ rfl
      clear hin hout
      intro K Q hK
      go_simp
      exact hK _ _ ⟨Same.refl _, rfl⟩
    refine allp_mild 0 rfl rfl rfl (fun a x W hout hin hP => ?_) ?_
    · have e0 : a.tmps[0]? = some (.slice (some ⟨g, o, none⟩) len c) := (hout 0 (by kernel_rfl)).trans rfl
      exact does_move rfl e0 ⟨Same.refl _, rfl⟩
    refine allp_mild 0 rfl rfl rfl (fun a x W hout hin hP => ?_) ?_
    · have e6 := hin.is 3 6 (by kernel_rfl) (by decide) (by kernel_rfl) (by kernel_rfl) _ rfl
      clear hin hout
      intro K Q hK
      go_simp
      exact hK _ _ ⟨Same.refl _, rfl⟩
    refine allp_mild 0 rfl rfl rfl (fun a x W hout hin hP => ?_) ?_
    · have e7 := hin.is 4 7 (by kernel_rfl) (by decide) (by kernel_rfl) (by kernel_rfl) _ rfl
      have C := short_at g (o + 2) (len - 2) (c - 2) (q.drop 2) W (hP.2.drop 2) H2.out.1 H2.out.2
      rw [HSV.out] at C
      clear hP
      clear hin hout
      intro K Q hK
      go_simp
      refine C.mono ?_
      rintro e W' ⟨rfl, hb⟩
      exact hK _ _ ⟨hb, rfl⟩
    refine allp_mild 0 rfl rfl rfl (fun a x W hout hin hP => ?_) ?_
    · have e8 := hin.is 5 8 (by kernel_rfl) (by decide) (by kernel_rfl) (by kernel_rfl) _ rfl
      clear hin hout
      intro K Q hK
      go_simp
      exact hK _ _ ⟨Same.refl _, rfl⟩
    refine allp_mild 0 rfl rfl rfl (fun a x W hout hin hP => ?_) ?_
    · have e9 := hin.is 6 9 (by kernel_rfl) (by decide) (by kernel_rfl) (by kernel_rfl) _ rfl
      clear hin hout
      intro K Q hK
      go_simp
      exact hK _ _ ⟨Same.refl _, rfl⟩
    refine allp_mild 0 rfl rfl rfl (fun a x W hout hin hP => ?_) ?_
    · have e5 := hin.is 2 5 (by kernel_rfl) (by decide) (by kernel_rfl) (by kernel_rfl) _ rfl
      have e10 := hin.is 7 10 (by kernel_rfl) (by decide) (by kernel_rfl) (by kernel_rfl) _ rfl
      clear hin hout
      intro K Q hK
      go_simp
      exact hK _ _ ⟨Same.refl _, rfl⟩
    refine allp_mild 0 rfl rfl rfl (fun a x W hout hin hP => ?_) ?_
    · have e11 := hin.is 8 11 (by kernel_rfl) (by decide) (by kernel_rfl) (by kernel_rfl) _ rfl
      exact does_assign rfl e11 ⟨Same.refl _, rfl⟩
    exact all_end (by decide)
  · intro x W hP hV
    have hb := hP.1
    have h10 : x 9 = .int .u32 (wd (lv 0 q)) := hV 9 (by decide) (.inl (by kernel_rfl))
    clear hP hV
    simp only [putL, Act.put, List.setIfInBounds_toArray, List.set_cons_succ, List.set_cons_zero, h10]
    refine wpAnyH_done (by kernel_rfl) ?_ _
    clear h10
    go_wp2_with fail
    go_ret
    exact ⟨rfl, hb⟩
end Go.Proofs.Ytamofhjnpahamaa

/- The program's reply of bytes, or that there is none. -/
set_option maxRecDepth 4000
namespace Go.Proofs.Ytamofhjnpahamaa
open Go Go.RowKit
theorem places_rep : placesOf Try.prog 31 = some (3, [(0, 1), (1, 1), (2, 1)]) := by kernel_rfl
theorem zero_rep : (Try.prog.info? 31).bind (·.zero) = some (.agg (repCells 0 0 (.slice none 0 0))) := by kernel_rfl
theorem one_rep (i e : Int) (A : Option Addr) (n c : Nat) : (repCells i e (.slice A n c)).all (·.oneCell') = true := by unfold repCells; simp [Value.oneCell']
theorem i64_wd (x : BitVec 32) : IntKind.i64.wrap (wd x) = wd x := i64_id _ (wd_lo x) (by have := wd_hi x; omega)
/- what bytes tell -/
def rpI (q : List (BitVec 8)) : Int := wd (lv 0 q)
def rpE (q : List (BitVec 8)) : Int := bd (q.getD 4 0#8)
def rpD (q : List (BitVec 8)) : List (BitVec 8) := (q.drop 6).take (q.length - 8)
def rpOk (q : List (BitVec 8)) : Bool := decide (8 ≤ q.length) && mayR (rpI q) (rpE q) (q.length - 8) && decide (repB (rpI q) (rpE q) (rpD q) = q)
set_option maxHeartbeats 800000 in
theorem repdec_len (A : Option Addr) (n cc : Nat) (w : World) (hn : n < 8) :
    Calls Try.prog 15 #[.slice A n cc] w fun e w' => e = .returned (.tuple #[.agg (repCells 0 0 (.slice none 0 0)), .int .i64 11]) ∧ Below w.heap.size w w' := by
  have hlt : (n : Int) < 8 := by omega
  have HS := St.nil w noF
  go_enter Try.func15, Try.ntmps15
  go_upto_region 1 with (first | ((with_reducible refine wpList_plain ?_ ?_); exact rfl; intro KK hKK; refine wp_st_alloc HS 31 (repCells 0 0 (.slice none 0 0)) rfl (.agg (repCells 0 0 (.slice none 0 0))) (by kernel_rfl) (rfl) (fun g2 W1 HSx => hKK _ _ ?_); clear hKK KK HS; have HS : St w noF [⟨g2, 31, repCells 0 0 (.slice none 0 0)⟩] W1 := HSx; clear HSx))
  have HS := HS
  go_wp2_with (first | ((with_reducible refine wpList_plain ?_ ?_); exact rfl; intro KK hKK; refine wp_st_store HS 0 0 31 (.tmp 2) (.tmp 10) rfl rfl rfl (.agg (repCells 0 0 (.slice none 0 0))) rfl (by exact size_rep) (Nat.le_refl 3) (one_rep _ _ _ _ _) (repCells 0 0 (.slice none 0 0)) (spl_agg _ _ _ rfl rfl) (fun W31 HSx => hKK _ _ ?_); clear hKK KK HS; have HS : St w noF [⟨g2, 31, repCells 0 0 (.slice none 0 0)⟩] W31 := HSx; clear HSx))
  exact bodyPost_ret (v := .tuple #[.agg (repCells 0 0 (.slice none 0 0)), .int .i64 11]) (results_cell_tmp Try.results15 _ _ g2 31 (repCells 0 0 (.slice none 0 0)) (0, 0) _ rfl (HS.row 0 rfl) Try.underlying31 rfl (by exact size_rep)) rfl ⟨rfl, HS.below⟩
set_option maxRecDepth 20000 in
set_option maxHeartbeats 1600000 in
theorem repdec_no (g o cc m : Nat) (q : List (BitVec 8)) (w : World) (hB : BAt w g o q) (hl : q.length = m + 8) (hc : m + 8 ≤ cc) (hm : m ≤ 999999990) (hmr : mayR (rpI q) (rpE q) m = false) :
    Calls Try.prog 15 #[.slice (some ⟨g, o, none⟩) (m + 8) cc] w fun e w' => e = .returned (.tuple #[.agg (repCells 0 0 (.slice none 0 0)), .int .i64 11]) ∧ Below w.heap.size w w' := by
  have HBA0 := Lib.hid hB
  have HQL := Lib.hid hl
  have HCC := Lib.hid hc
  have HM := Lib.hid hm
  have k0 : ¬ cc = 0 := by omega
  have k6 : ¬ cc = 6 := by omega
  have l6 : 6 ≤ cc := by omega
  have l8 : ¬ (m : Int) + 8 < 8 := by omega
  have l4 : (4 : Int) < (m : Int) + 8 := by omega
  have l4n : 4 < m + 8 := by omega
  have l66 : (6 : Int) ≤ (m : Int) + 6 := by omega
  have lmc : (m : Int) + 6 ≤ (cc : Int) := by omega
  have lmn : m + 6 ≤ cc := by omega
  obtain ⟨x4, hx4⟩ : ∃ x, q.getD 4 0#8 = x := ⟨_, rfl⟩
  obtain ⟨i, hi⟩ : ∃ i, lv 0 q = i := ⟨_, rfl⟩
  obtain ⟨d, hd⟩ : ∃ d, (q.drop 6).take m = d := ⟨_, rfl⟩
  have HX4 := Lib.hid hx4
  have HI := Lib.hid hi
  have HD := Lib.hid hd
  have HDL : Hid (d.length = m) := Lib.hid (by rw [← hd, List.length_take, List.length_drop, hl]; omega)
  have hri : rpI q = wd i := by unfold rpI; rw [hi]
  have hre : rpE q = bd x4 := by unfold rpE; rw [hx4]
  have hrd : rpD q = d := by unfold rpD; rw [hl]; exact hd
  rw [hri, hre] at hmr
  have HMR := Lib.hid hmr
  clear hmr
  clear hB hl hc hm hx4 hi hd hri hre hrd
  have HS := St.nil w noF
  go_enter Try.func15, Try.ntmps15
  go_upto_region 1 with (first | ((with_reducible refine wpList_plain ?_ ?_); exact rfl; intro KK hKK; refine wp_st_alloc HS 31 (repCells 0 0 (.slice none 0 0)) rfl (.agg (repCells 0 0 (.slice none 0 0))) (by kernel_rfl) (rfl) (fun g2 W1 HSx => hKK _ _ ?_); clear hKK KK HS; have HS : St w noF [⟨g2, 31, repCells 0 0 (.slice none 0 0)⟩] W1 := HSx; clear HSx))
  have HS := HS
  obtain ⟨B0, hB0⟩ : ∃ B0, W1.heap.size = B0 := ⟨_, rfl⟩
  have HBA1 : BAt W1 g o q := HBA0.out.call HS.below
  have HB0 : Hid (w.heap.size ≤ B0) := Lib.hid (by rw [← hB0]; exact HS.below.size)
  have HLT : Hid (∀ b ∈ ([⟨g2, 31, repCells 0 0 (.slice none 0 0)⟩] : List Blk), b.g < B0) := Lib.hid (by rw [← hB0]; exact fun b hb => HS.lt hb)
  have HGB : Hid (g < B0) := Lib.hid (by rw [← hB0]; exact HBA1.lt)
  have HBB : Hid (B0 ≤ W1.heap.size) := Lib.hid (Nat.le_of_eq hB0.symm)
  clear hB0 HBA0
  go_upto_region 3 with fail
  have hF0 : Wl [fun W => St w noF [⟨g2, 31, repCells 0 0 (.slice none 0 0)⟩] W ∧ BAt W g o q ∧ B0 ≤ W.heap.size, fun W => St w noF [⟨g2, 31, repCells 0 0 (.slice none 0 0)⟩] W ∧ BAt W g o q ∧ B0 ≤ W.heap.size] 0 W1.drew := ⟨HS.drew, HBA1.call (Below.refl _ _).drew, HBB.out⟩
  clear HS HBA1 HBB
  refine wp_region_phas [is (.slice (some ⟨g, o, none⟩) (m + 8) cc), is (.slice (some ⟨g, o, none⟩) (m + 8) cc), is (.int .u32 (wd i)), is (.int .i64 (wd i)), is (.slice (some ⟨g, o, none⟩) (m + 8) cc), is (.pointer (some ⟨g, o + 4, none⟩)), is (.int .u8 (bd x4)), is (.int .i64 (bd x4)), is (.slice (some ⟨g, o, none⟩) (m + 8) cc), is (.slice (some ⟨g, o, none⟩) (m + 8) cc), is (.int .i64 ((m : Int) + 8)), is (.int .i64 ((m : Int) + 6)), is (.slice (some ⟨g, o + 6, none⟩) m (cc - 6)), (fun u W => W.ownsRow B0 5 1 u m (bytesV d)), (fun v W => ∃ u, v = Value.agg (repCells (wd i) (bd x4) u) ∧ W.ownsRow B0 5 1 u m (bytesV d)), (fun v W => ∃ k, v = Value.pointer (some ⟨k, 0, none⟩) ∧ Row W k 31 (repCells 0 0 (.slice none 0 0)) ∧ B0 ≤ k), (fun v W => ∃ k u, v = Value.pointer (some ⟨k, 0, none⟩) ∧ Row W k 31 (repCells (wd i) (bd x4) u) ∧ B0 ≤ k ∧ W.ownsRow B0 5 1 u m (bytesV d))] [true, true, true, true, true, true, true, true, true, true, true, true, true, false, false, false, false] [(fun W => St w noF [⟨g2, 31, repCells 0 0 (.slice none 0 0)⟩] W ∧ BAt W g o q ∧ B0 ≤ W.heap.size), (fun W => St w noF [⟨g2, 31, repCells 0 0 (.slice none 0 0)⟩] W ∧ BAt W g o q ∧ B0 ≤ W.heap.size)] [false, false, false, false, false, false, false, false, false, false, false, false, false, false, false, false, true] [some 0, some 0, some 0, some 0, some 0, some 0, some 0, some 0, some 0, some 0, some 0, some 0, some 0, some 0, some 0, some 0, some 0] [none, none, none, none, none, none, none, none, none, none, none, none, none, none, none, none, some 15] [some 11, some 12, some 13, some 14, some 15, some 16, some 17, some 18, some 19, some 20, some 21, some 22, some 23, some 24, some 25, some 4, none] 17 1 (fun _ => true) rfl rfl (by kernel_rfl) (by kernel_rfl) (by kernel_rfl) (by kernel_rfl) (by kernel_rfl) ?_ ?_ ?_ ?_ ?_ ?_
  · repeat first | exact wok_nil | refine wok_cons (by first | exact fun _ _ h k => ⟨h.1.same k, h.2.1.call k, Nat.le_trans h.2.2 k.size⟩) ?_
  · repeat first | exact vok_nil | refine vok_rig (by first | exact fun _ _ _ h => h) ?_ | refine vok_soft (by first | exact fun _ _ _ h _ => h | exact fun _ _ _ h k => owns_call h k | exact fun _ _ _ h k => ⟨h.choose, h.choose_spec.1, h.choose_spec.2.1.call k, h.choose_spec.2.2⟩ | exact fun _ _ _ h k => ⟨h.choose, h.choose_spec.1, owns_call h.choose_spec.2 k⟩ | exact fun _ _ _ h k => ⟨h.choose, h.choose_spec.choose, h.choose_spec.choose_spec.1, h.choose_spec.choose_spec.2.1.call k, h.choose_spec.choose_spec.2.2.1, owns_call h.choose_spec.choose_spec.2.2.2 k⟩) ?_
  · exact hF0
  · repeat first | exact all_end (by decide) | refine all_cons (by first | exact rfl | exact ⟨rfl, fun _ _ h => Or.inl h⟩ | exact ⟨rfl, fun _ _ h => Or.inr ⟨h, rfl⟩⟩) ?_
  · refine alla_old rfl (step_mild 0 rfl rfl rfl (fun a x W hout hin hP => ?_)) ?_
    · have e0 : a.tmps[0]? = some (.slice (some ⟨g, o, none⟩) (m + 8) cc) := (hout 0 (by kernel_rfl)).trans rfl
      exact does_move rfl e0 ⟨Same.refl _, rfl⟩
    refine alla_old rfl (step_mild 0 rfl rfl rfl (fun a x W hout hin hP => ?_)) ?_
    · have e11 := hin.is 0 11 (by kernel_rfl) (by decide) (by kernel_rfl) (by kernel_rfl) _ rfl
      clear hin hout
      intro K Q hK
      go_simp
      exact hK _ _ ⟨Same.refl _, rfl⟩
    refine alla_old rfl (step_mild 0 rfl rfl rfl (fun a x W hout hin hP => ?_)) ?_
    · have e12 := hin.is 1 12 (by kernel_rfl) (by decide) (by kernel_rfl) (by kernel_rfl) _ rfl
      have C := long_at g o (m + 8) cc q W hP.2.1 (by rw [HQL.out]; omega) (by omega) HCC.out
      rw [HI.out] at C
      clear hP
      clear hin hout
      intro K Q hK
      go_simp
      refine C.mono ?_
      rintro e W' ⟨rfl, hb⟩
      exact hK _ _ ⟨hb, rfl⟩
    refine alla_old rfl (step_mild 0 rfl rfl rfl (fun a x W hout hin hP => ?_)) ?_
    · have e13 := hin.is 2 13 (by kernel_rfl) (by decide) (by kernel_rfl) (by kernel_rfl) _ rfl
      have hw := i64_wd i
      clear hin hout
      intro K Q hK
      go_simp
      exact hK _ _ ⟨Same.refl _, rfl⟩
    refine alla_old rfl (step_mild 0 rfl rfl rfl (fun a x W hout hin hP => ?_)) ?_
    · have e0 : a.tmps[0]? = some (.slice (some ⟨g, o, none⟩) (m + 8) cc) := (hout 0 (by kernel_rfl)).trans rfl
      exact does_move rfl e0 ⟨Same.refl _, rfl⟩
    refine alla_old rfl (step_mild 0 rfl rfl rfl (fun a x W hout hin hP => ?_)) ?_
    · have e15 := hin.is 4 15 (by kernel_rfl) (by decide) (by kernel_rfl) (by kernel_rfl) _ rfl
      clear hin hout
      intro K Q hK
      go_simp
      exact hK _ _ ⟨Same.refl _, rfl⟩
    refine alla_old rfl (step_mild 0 rfl rfl rfl (fun a x W hout hin hP => ?_)) ?_
    · have e16 := hin.is 5 16 (by kernel_rfl) (by decide) (by kernel_rfl) (by kernel_rfl) _ rfl
      have hc : W.cell? ⟨g, o + 4, none⟩ = some (.int .u8 (bd x4)) := HX4.out ▸ hP.2.1.get 4 (by rw [HQL.out]; omega)
      clear hP
      clear hin hout
      intro K Q hK
      go_simp
      exact hK _ _ ⟨Same.refl _, rfl⟩
    refine alla_old rfl (step_mild 0 rfl rfl rfl (fun a x W hout hin hP => ?_)) ?_
    · have e17 := hin.is 6 17 (by kernel_rfl) (by decide) (by kernel_rfl) (by kernel_rfl) _ rfl
      have hw := i64_bd x4
      clear hin hout
      intro K Q hK
      go_simp
      exact hK _ _ ⟨Same.refl _, rfl⟩
    refine alla_old rfl (step_mild 0 rfl rfl rfl (fun a x W hout hin hP => ?_)) ?_
    · have e0 : a.tmps[0]? = some (.slice (some ⟨g, o, none⟩) (m + 8) cc) := (hout 0 (by kernel_rfl)).trans rfl
      exact does_move rfl e0 ⟨Same.refl _, rfl⟩
    refine alla_old rfl (step_mild 0 rfl rfl rfl (fun a x W hout hin hP => ?_)) ?_
    · have e0 : a.tmps[0]? = some (.slice (some ⟨g, o, none⟩) (m + 8) cc) := (hout 0 (by kernel_rfl)).trans rfl
      exact does_move rfl e0 ⟨Same.refl _, rfl⟩
    refine alla_old rfl (step_mild 0 rfl rfl rfl (fun a x W hout hin hP => ?_)) ?_
    · have e20 := hin.is 9 20 (by kernel_rfl) (by decide) (by kernel_rfl) (by kernel_rfl) _ rfl
      clear hin hout
      intro K Q hK
      go_simp
      exact hK _ _ ⟨Same.refl _, rfl⟩
    refine alla_old rfl (step_mild 0 rfl rfl rfl (fun a x W hout hin hP => ?_)) ?_
    · have e21 := hin.is 10 21 (by kernel_rfl) (by decide) (by kernel_rfl) (by kernel_rfl) _ rfl
      have hw : IntKind.i64.wrap ((m : Int) + 8 - 2) = (m : Int) + 6 := by rw [show (m : Int) + 8 - 2 = (m : Int) + 6 by omega]; exact i64_id _ (by omega) (by have := HM.out; omega)
      clear hin hout
      intro K Q hK
      go_simp
      exact hK _ _ ⟨Same.refl _, rfl⟩
    refine alla_old rfl (step_mild 0 rfl rfl rfl (fun a x W hout hin hP => ?_)) ?_
    · have e19 := hin.is 8 19 (by kernel_rfl) (by decide) (by kernel_rfl) (by kernel_rfl) _ rfl
      have e22 := hin.is 11 22 (by kernel_rfl) (by decide) (by kernel_rfl) (by kernel_rfl) _ rfl
      clear hin hout
      intro K Q hK
      go_simp
      exact hK _ _ ⟨Same.refl _, rfl⟩
    refine alla_old rfl (step_mild 0 rfl rfl rfl (fun a x W hout hin hP => ?_)) ?_
    · have e23 := hin.is 12 23 (by kernel_rfl) (by decide) (by kernel_rfl) (by kernel_rfl) _ rfl
      have HD6 : Slice W (.slice (some ⟨g, o + 6, none⟩) m (cc - 6)) d := HD.out ▸ ((hP.2.1.drop 6).take m).slice (by rw [HD.out]; exact HDL.out) (by have := HCC.out; omega)
      have hbse := hP.2.2
      have C := clone_any ⟨g, o + 6, none⟩ m (cc - 6) d HDL.out W HD6 (by have := HM.out; omega)
      clear hP HD6
      clear hin hout
      intro K Q hK
      go_simp
      refine C.mono ?_
      rintro e W' ⟨u, rfl, ho, hb⟩
      exact hK _ _ ⟨hb, own_base ho hbse⟩
    refine alla_old rfl (step_mild 0 rfl rfl rfl (fun a x W hout hin hP => ?_)) ?_
    · have e14 := hin.is 3 14 (by kernel_rfl) (by decide) (by kernel_rfl) (by kernel_rfl) _ rfl
      have e18 := hin.is 7 18 (by kernel_rfl) (by decide) (by kernel_rfl) (by kernel_rfl) _ rfl
      obtain ⟨v24, e24, hv24⟩ := hin.get 13 24 (by kernel_rfl) (by decide) (by kernel_rfl) (.inr ⟨rfl, by kernel_rfl⟩)
      clear hin hout hP
      intro K Q hK
      refine wp_buildStruct 31 _ rfl places_rep [.int .i64 (wd i), .int .i64 (bd x4), v24] ?_ ?_ ?_ ?_
      · simp only [List.map_toArray, List.map_cons, List.map_nil, eval_of_get e14, eval_of_get e18, eval_of_get e24]; rfl
      · obtain ⟨A5, c5, rfl, _⟩ := own_slice_form hv24; rfl
      · obtain ⟨A5, c5, rfl, _⟩ := own_slice_form hv24; rfl
      · obtain ⟨A5, c5, rfl, _⟩ := own_slice_form hv24; exact hK _ _ ⟨Same.refl _, _, rfl, hv24⟩
    refine alla_old rfl (step_mild 0 rfl rfl rfl (fun a x W hout hin hP => ?_)) ?_
    · have hbse := hP.2.2
      clear hP hin hout
      intro K Q hK
      have hz : (Try.prog.info? 31).bind (·.zero) = some (.agg (repCells 0 0 (.slice none 0 0))) := zero_rep
      refine wp_new_row 31 (repCells 0 0 (.slice none 0 0)) rfl hz ?_
      exact hK _ _ ⟨Same.alloc _ _, _, rfl, Row.fresh _ _ _, hbse⟩
    refine alla_wild 0 rfl rfl rfl (fun a x W hout hin hP => ?_) ?_
    · obtain ⟨hw15, hx15⟩ := hin 15 (by kernel_rfl) (by decide)
      have hw15 := hw15 (.inr ⟨rfl, by kernel_rfl⟩)
      have hx15 := hx15 4 (by kernel_rfl)
      obtain ⟨v25, e25, hv25⟩ := hin.get 14 25 (by kernel_rfl) (by decide) (by kernel_rfl) (.inr ⟨rfl, by kernel_rfl⟩)
      obtain ⟨g6, hg6, r6, hb6⟩ := hw15
      obtain ⟨u, rfl, hu⟩ := hv25
      rw [hg6] at hx15
      clear hin hout
      intro K Q hK
      obtain ⟨A5, c5, rfl, _⟩ := own_slice_form hu
      refine wp_store_row 31 (.tmp 4) (.tmp 25) rfl g6 (repCells (wd i) (bd x4) (.slice A5 m c5)) (eval_of_get hx15) (eval_of_get e25) 31 (repCells 0 0 (.slice none 0 0)) r6 (by exact size_rep) rfl (one_rep _ _ _ _ _) ?_
      have hgr := grown_setRow W g6 (repCells (wd i) (bd x4) (.slice A5 m c5))
      exact hK (x 15) _ ⟨⟨hP.1.far hgr (Nat.le_trans HB0.out hb6) (fun b hb => by have := HLT.out b hb; omega), hP.2.1.far hgr (by have := HGB.out; omega), Nat.le_trans hP.2.2 hgr.size⟩, ⟨g6, _, hg6, r6.setRow _, hb6, own_chg hu ((Chg.refl (fun k => k = g6) W).grown hgr (fun k e => by cases e; exact .inl rfl)) (own_apart hu r6 (by decide))⟩, al_one rfl rfl⟩
    exact all_end (by decide)
  · intro x W hP hV hal
    obtain ⟨g6, u, h8, r6, hb6, hu⟩ := hV 16 (by decide) (.inr (by kernel_rfl))
    have h7 : x 15 = .pointer (some ⟨g6, 0, none⟩) := (hal 16 (by decide) 15 rfl).symm.trans h8
    have HS := hP.1
    have HBA := Lib.hid hP.2.1
    obtain ⟨A5, c5, rfl, _⟩ := own_slice_form hu
    have R6 := Lib.hid r6
    have HU := Lib.hid hu
    have HW0 : Hid (B0 ≤ W.heap.size) := Lib.hid hP.2.2
    clear hV hP hal h8 r6 hb6 hu
    simp only [putL, Act.put, List.setIfInBounds_toArray, List.set_cons_succ, List.set_cons_zero, h7]
    simp only [Nat.zero_add, Nat.reduceAdd]
    refine wpAnyH_done (by kernel_rfl) ?_ _
    clear h7
    have CE := repenc_bad (wd i) (bd x4) A5 m c5 W HMR.out
    go_wp2_with (first | ((with_reducible refine wpList_plain ?_ ?_); exact rfl; intro KK hKK; refine wp_load_row 31 (.tmp 4) rfl g6 rfl 31 (repCells (wd i) (bd x4) (.slice A5 m c5)) (0, 0) _ R6.out Try.underlying31 rfl (by exact size_rep) (hKK _ _ ?_); clear hKK KK))
    refine CE.mono ?_
    rintro e w5 ⟨rfl, hb5⟩
    have HSx := HS.same hb5
    clear HS hb5 R6 HU CE
    have HS := HSx
    clear HSx
    go_wp2_with (first | ((with_reducible refine wpList_plain ?_ ?_); exact rfl; intro KK hKK; refine wp_st_store HS 0 0 31 (.tmp 2) (.tmp 39) rfl rfl rfl (.agg (repCells 0 0 (.slice none 0 0))) rfl (by exact size_rep) (Nat.le_refl 3) (one_rep _ _ _ _ _) (repCells 0 0 (.slice none 0 0)) (spl_agg _ _ _ rfl rfl) (fun W41 HSx => hKK _ _ ?_); clear hKK KK HS; have HS : St w noF [⟨g2, 31, repCells 0 0 (.slice none 0 0)⟩] W41 := HSx; clear HSx))
    exact bodyPost_ret (v := .tuple #[.agg (repCells 0 0 (.slice none 0 0)), .int .i64 11]) (results_cell_tmp Try.results15 _ _ g2 31 (repCells 0 0 (.slice none 0 0)) (0, 0) _ rfl (HS.row 0 rfl) Try.underlying31 rfl (by exact size_rep)) rfl ⟨rfl, HS.below⟩
set_option maxRecDepth 20000 in
set_option maxHeartbeats 1600000 in
theorem repdec_other (g o cc m : Nat) (q : List (BitVec 8)) (w : World) (hB : BAt w g o q) (hl : q.length = m + 8) (hc : m + 8 ≤ cc) (hm : m ≤ 999999990) (hmr : mayR (rpI q) (rpE q) m = true) (hbq : ¬ (repB (rpI q) (rpE q) (rpD q) = q)) :
    Calls Try.prog 15 #[.slice (some ⟨g, o, none⟩) (m + 8) cc] w fun e w' => e = .returned (.tuple #[.agg (repCells 0 0 (.slice none 0 0)), .int .i64 11]) ∧ Below w.heap.size w w' := by
  have HBA0 := Lib.hid hB
  have HQL := Lib.hid hl
  have HCC := Lib.hid hc
  have HM := Lib.hid hm
  have k0 : ¬ cc = 0 := by omega
  have k6 : ¬ cc = 6 := by omega
  have l6 : 6 ≤ cc := by omega
  have l8 : ¬ (m : Int) + 8 < 8 := by omega
  have l4 : (4 : Int) < (m : Int) + 8 := by omega
  have l4n : 4 < m + 8 := by omega
  have l66 : (6 : Int) ≤ (m : Int) + 6 := by omega
  have lmc : (m : Int) + 6 ≤ (cc : Int) := by omega
  have lmn : m + 6 ≤ cc := by omega
  obtain ⟨x4, hx4⟩ : ∃ x, q.getD 4 0#8 = x := ⟨_, rfl⟩
  obtain ⟨i, hi⟩ : ∃ i, lv 0 q = i := ⟨_, rfl⟩
  obtain ⟨d, hd⟩ : ∃ d, (q.drop 6).take m = d := ⟨_, rfl⟩
  have HX4 := Lib.hid hx4
  have HI := Lib.hid hi
  have HD := Lib.hid hd
  have HDL : Hid (d.length = m) := Lib.hid (by rw [← hd, List.length_take, List.length_drop, hl]; omega)
  have hri : rpI q = wd i := by unfold rpI; rw [hi]
  have hre : rpE q = bd x4 := by unfold rpE; rw [hx4]
  have hrd : rpD q = d := by unfold rpD; rw [hl]; exact hd
  rw [hri, hre] at hmr
  have HMR := Lib.hid hmr
  clear hmr
  rw [hri, hre, hrd] at hbq
  have HBQ := Lib.hid hbq
  clear hbq
  clear hB hl hc hm hx4 hi hd hri hre hrd
  have HS := St.nil w noF
  go_enter Try.func15, Try.ntmps15
  go_upto_region 1 with (first | ((with_reducible refine wpList_plain ?_ ?_); exact rfl; intro KK hKK; refine wp_st_alloc HS 31 (repCells 0 0 (.slice none 0 0)) rfl (.agg (repCells 0 0 (.slice none 0 0))) (by kernel_rfl) (rfl) (fun g2 W1 HSx => hKK _ _ ?_); clear hKK KK HS; have HS : St w noF [⟨g2, 31, repCells 0 0 (.slice none 0 0)⟩] W1 := HSx; clear HSx))
  have HS := HS
  obtain ⟨B0, hB0⟩ : ∃ B0, W1.heap.size = B0 := ⟨_, rfl⟩
  have HBA1 : BAt W1 g o q := HBA0.out.call HS.below
  have HB0 : Hid (w.heap.size ≤ B0) := Lib.hid (by rw [← hB0]; exact HS.below.size)
  have HLT : Hid (∀ b ∈ ([⟨g2, 31, repCells 0 0 (.slice none 0 0)⟩] : List Blk), b.g < B0) := Lib.hid (by rw [← hB0]; exact fun b hb => HS.lt hb)
  have HGB : Hid (g < B0) := Lib.hid (by rw [← hB0]; exact HBA1.lt)
  have HBB : Hid (B0 ≤ W1.heap.size) := Lib.hid (Nat.le_of_eq hB0.symm)
  clear hB0 HBA0
  go_upto_region 3 with fail
  have hF0 : Wl [fun W => St w noF [⟨g2, 31, repCells 0 0 (.slice none 0 0)⟩] W ∧ BAt W g o q ∧ B0 ≤ W.heap.size, fun W => St w noF [⟨g2, 31, repCells 0 0 (.slice none 0 0)⟩] W ∧ BAt W g o q ∧ B0 ≤ W.heap.size] 0 W1.drew := ⟨HS.drew, HBA1.call (Below.refl _ _).drew, HBB.out⟩
  clear HS HBA1 HBB
  refine wp_region_phas [is (.slice (some ⟨g, o, none⟩) (m + 8) cc), is (.slice (some ⟨g, o, none⟩) (m + 8) cc), is (.int .u32 (wd i)), is (.int .i64 (wd i)), is (.slice (some ⟨g, o, none⟩) (m + 8) cc), is (.pointer (some ⟨g, o + 4, none⟩)), is (.int .u8 (bd x4)), is (.int .i64 (bd x4)), is (.slice (some ⟨g, o, none⟩) (m + 8) cc), is (.slice (some ⟨g, o, none⟩) (m + 8) cc), is (.int .i64 ((m : Int) + 8)), is (.int .i64 ((m : Int) + 6)), is (.slice (some ⟨g, o + 6, none⟩) m (cc - 6)), (fun u W => W.ownsRow B0 5 1 u m (bytesV d)), (fun v W => ∃ u, v = Value.agg (repCells (wd i) (bd x4) u) ∧ W.ownsRow B0 5 1 u m (bytesV d)), (fun v W => ∃ k, v = Value.pointer (some ⟨k, 0, none⟩) ∧ Row W k 31 (repCells 0 0 (.slice none 0 0)) ∧ B0 ≤ k), (fun v W => ∃ k u, v = Value.pointer (some ⟨k, 0, none⟩) ∧ Row W k 31 (repCells (wd i) (bd x4) u) ∧ B0 ≤ k ∧ W.ownsRow B0 5 1 u m (bytesV d))] [true, true, true, true, true, true, true, true, true, true, true, true, true, false, false, false, false] [(fun W => St w noF [⟨g2, 31, repCells 0 0 (.slice none 0 0)⟩] W ∧ BAt W g o q ∧ B0 ≤ W.heap.size), (fun W => St w noF [⟨g2, 31, repCells 0 0 (.slice none 0 0)⟩] W ∧ BAt W g o q ∧ B0 ≤ W.heap.size)] [false, false, false, false, false, false, false, false, false, false, false, false, false, false, false, false, true] [some 0, some 0, some 0, some 0, some 0, some 0, some 0, some 0, some 0, some 0, some 0, some 0, some 0, some 0, some 0, some 0, some 0] [none, none, none, none, none, none, none, none, none, none, none, none, none, none, none, none, some 15] [some 11, some 12, some 13, some 14, some 15, some 16, some 17, some 18, some 19, some 20, some 21, some 22, some 23, some 24, some 25, some 4, none] 17 1 (fun _ => true) rfl rfl (by kernel_rfl) (by kernel_rfl) (by kernel_rfl) (by kernel_rfl) (by kernel_rfl) ?_ ?_ ?_ ?_ ?_ ?_
  · repeat first | exact wok_nil | refine wok_cons (by first | exact fun _ _ h k => ⟨h.1.same k, h.2.1.call k, Nat.le_trans h.2.2 k.size⟩) ?_
  · repeat first | exact vok_nil | refine vok_rig (by first | exact fun _ _ _ h => h) ?_ | refine vok_soft (by first | exact fun _ _ _ h _ => h | exact fun _ _ _ h k => owns_call h k | exact fun _ _ _ h k => ⟨h.choose, h.choose_spec.1, h.choose_spec.2.1.call k, h.choose_spec.2.2⟩ | exact fun _ _ _ h k => ⟨h.choose, h.choose_spec.1, owns_call h.choose_spec.2 k⟩ | exact fun _ _ _ h k => ⟨h.choose, h.choose_spec.choose, h.choose_spec.choose_spec.1, h.choose_spec.choose_spec.2.1.call k, h.choose_spec.choose_spec.2.2.1, owns_call h.choose_spec.choose_spec.2.2.2 k⟩) ?_
  · exact hF0
  · repeat first | exact all_end (by decide) | refine all_cons (by first | exact rfl | exact ⟨rfl, fun _ _ h => Or.inl h⟩ | exact ⟨rfl, fun _ _ h => Or.inr ⟨h, rfl⟩⟩) ?_
  · refine alla_old rfl (step_mild 0 rfl rfl rfl (fun a x W hout hin hP => ?_)) ?_
    · have e0 : a.tmps[0]? = some (.slice (some ⟨g, o, none⟩) (m + 8) cc) := (hout 0 (by kernel_rfl)).trans rfl
      exact does_move rfl e0 ⟨Same.refl _, rfl⟩
    refine alla_old rfl (step_mild 0 rfl rfl rfl (fun a x W hout hin hP => ?_)) ?_
    · have e11 := hin.is 0 11 (by kernel_rfl) (by decide) (by kernel_rfl) (by kernel_rfl) _ rfl
      clear hin hout
      intro K Q hK
      go_simp
      exact hK _ _ ⟨Same.refl _, rfl⟩
    refine alla_old rfl (step_mild 0 rfl rfl rfl (fun a x W hout hin hP => ?_)) ?_
    · have e12 := hin.is 1 12 (by kernel_rfl) (by decide) (by kernel_rfl) (by kernel_rfl) _ rfl
      have C := long_at g o (m + 8) cc q W hP.2.1 (by rw [HQL.out]; omega) (by omega) HCC.out
      rw [HI.out] at C
      clear hP
      clear hin hout
      intro K Q hK
      go_simp
      refine C.mono ?_
      rintro e W' ⟨rfl, hb⟩
      exact hK _ _ ⟨hb, rfl⟩
    refine alla_old rfl (step_mild 0 rfl rfl rfl (fun a x W hout hin hP => ?_)) ?_
    · have e13 := hin.is 2 13 (by kernel_rfl) (by decide) (by kernel_rfl) (by kernel_rfl) _ rfl
      have hw := i64_wd i
      clear hin hout
      intro K Q hK
      go_simp
      exact hK _ _ ⟨Same.refl _, rfl⟩
    refine alla_old rfl (step_mild 0 rfl rfl rfl (fun a x W hout hin hP => ?_)) ?_
    · have e0 : a.tmps[0]? = some (.slice (some ⟨g, o, none⟩) (m + 8) cc) := (hout 0 (by kernel_rfl)).trans rfl
      exact does_move rfl e0 ⟨Same.refl _, rfl⟩
    refine alla_old rfl (step_mild 0 rfl rfl rfl (fun a x W hout hin hP => ?_)) ?_
    · have e15 := hin.is 4 15 (by kernel_rfl) (by decide) (by kernel_rfl) (by kernel_rfl) _ rfl
      clear hin hout
      intro K Q hK
      go_simp
      exact hK _ _ ⟨Same.refl _, rfl⟩
    refine alla_old rfl (step_mild 0 rfl rfl rfl (fun a x W hout hin hP => ?_)) ?_
    · have e16 := hin.is 5 16 (by kernel_rfl) (by decide) (by kernel_rfl) (by kernel_rfl) _ rfl
      have hc : W.cell? ⟨g, o + 4, none⟩ = some (.int .u8 (bd x4)) := HX4.out ▸ hP.2.1.get 4 (by rw [HQL.out]; omega)
      clear hP
      clear hin hout
      intro K Q hK
      go_simp
      exact hK _ _ ⟨Same.refl _, rfl⟩
    refine alla_old rfl (step_mild 0 rfl rfl rfl (fun a x W hout hin hP => ?_)) ?_
    · have e17 := hin.is 6 17 (by kernel_rfl) (by decide) (by kernel_rfl) (by kernel_rfl) _ rfl
      have hw := i64_bd x4
      clear hin hout
      intro K Q hK
      go_simp
      exact hK _ _ ⟨Same.refl _, rfl⟩
    refine alla_old rfl (step_mild 0 rfl rfl rfl (fun a x W hout hin hP => ?_)) ?_
    · have e0 : a.tmps[0]? = some (.slice (some ⟨g, o, none⟩) (m + 8) cc) := (hout 0 (by kernel_rfl)).trans rfl
      exact does_move rfl e0 ⟨Same.refl _, rfl⟩
    refine alla_old rfl (step_mild 0 rfl rfl rfl (fun a x W hout hin hP => ?_)) ?_
    · have e0 : a.tmps[0]? = some (.slice (some ⟨g, o, none⟩) (m + 8) cc) := (hout 0 (by kernel_rfl)).trans rfl
      exact does_move rfl e0 ⟨Same.refl _, rfl⟩
    refine alla_old rfl (step_mild 0 rfl rfl rfl (fun a x W hout hin hP => ?_)) ?_
    · have e20 := hin.is 9 20 (by kernel_rfl) (by decide) (by kernel_rfl) (by kernel_rfl) _ rfl
      clear hin hout
      intro K Q hK
      go_simp
      exact hK _ _ ⟨Same.refl _, rfl⟩
    refine alla_old rfl (step_mild 0 rfl rfl rfl (fun a x W hout hin hP => ?_)) ?_
    · have e21 := hin.is 10 21 (by kernel_rfl) (by decide) (by kernel_rfl) (by kernel_rfl) _ rfl
      have hw : IntKind.i64.wrap ((m : Int) + 8 - 2) = (m : Int) + 6 := by rw [show (m : Int) + 8 - 2 = (m : Int) + 6 by omega]; exact i64_id _ (by omega) (by have := HM.out; omega)
      clear hin hout
      intro K Q hK
      go_simp
      exact hK _ _ ⟨Same.refl _, rfl⟩
    refine alla_old rfl (step_mild 0 rfl rfl rfl (fun a x W hout hin hP => ?_)) ?_
    · have e19 := hin.is 8 19 (by kernel_rfl) (by decide) (by kernel_rfl) (by kernel_rfl) _ rfl
      have e22 := hin.is 11 22 (by kernel_rfl) (by decide) (by kernel_rfl) (by kernel_rfl) _ rfl
      clear hin hout
      intro K Q hK
      go_simp
      exact hK _ _ ⟨Same.refl _, rfl⟩
    refine alla_old rfl (step_mild 0 rfl rfl rfl (fun a x W hout hin hP => ?_)) ?_
    · have e23 := hin.is 12 23 (by kernel_rfl) (by decide) (by kernel_rfl) (by kernel_rfl) _ rfl
      have HD6 : Slice W (.slice (some ⟨g, o + 6, none⟩) m (cc - 6)) d := HD.out ▸ ((hP.2.1.drop 6).take m).slice (by rw [HD.out]; exact HDL.out) (by have := HCC.out; omega)
      have hbse := hP.2.2
      have C := clone_any ⟨g, o + 6, none⟩ m (cc - 6) d HDL.out W HD6 (by have := HM.out; omega)
      clear hP HD6
      clear hin hout
      intro K Q hK
      go_simp
      refine C.mono ?_
      rintro e W' ⟨u, rfl, ho, hb⟩
      exact hK _ _ ⟨hb, own_base ho hbse⟩
    refine alla_old rfl (step_mild 0 rfl rfl rfl (fun a x W hout hin hP => ?_)) ?_
    · have e14 := hin.is 3 14 (by kernel_rfl) (by decide) (by kernel_rfl) (by kernel_rfl) _ rfl
      have e18 := hin.is 7 18 (by kernel_rfl) (by decide) (by kernel_rfl) (by kernel_rfl) _ rfl
      obtain ⟨v24, e24, hv24⟩ := hin.get 13 24 (by kernel_rfl) (by decide) (by kernel_rfl) (.inr ⟨rfl, by kernel_rfl⟩)
      clear hin hout hP
      intro K Q hK
      refine wp_buildStruct 31 _ rfl places_rep [.int .i64 (wd i), .int .i64 (bd x4), v24] ?_ ?_ ?_ ?_
      · simp only [List.map_toArray, List.map_cons, List.map_nil, eval_of_get e14, eval_of_get e18, eval_of_get e24]; rfl
      · obtain ⟨A5, c5, rfl, _⟩ := own_slice_form hv24; rfl
      · obtain ⟨A5, c5, rfl, _⟩ := own_slice_form hv24; rfl
      · obtain ⟨A5, c5, rfl, _⟩ := own_slice_form hv24; exact hK _ _ ⟨Same.refl _, _, rfl, hv24⟩
    refine alla_old rfl (step_mild 0 rfl rfl rfl (fun a x W hout hin hP => ?_)) ?_
    · have hbse := hP.2.2
      clear hP hin hout
      intro K Q hK
      have hz : (Try.prog.info? 31).bind (·.zero) = some (.agg (repCells 0 0 (.slice none 0 0))) := zero_rep
      refine wp_new_row 31 (repCells 0 0 (.slice none 0 0)) rfl hz ?_
      exact hK _ _ ⟨Same.alloc _ _, _, rfl, Row.fresh _ _ _, hbse⟩
    refine alla_wild 0 rfl rfl rfl (fun a x W hout hin hP => ?_) ?_
    · obtain ⟨hw15, hx15⟩ := hin 15 (by kernel_rfl) (by decide)
      have hw15 := hw15 (.inr ⟨rfl, by kernel_rfl⟩)
      have hx15 := hx15 4 (by kernel_rfl)
      obtain ⟨v25, e25, hv25⟩ := hin.get 14 25 (by kernel_rfl) (by decide) (by kernel_rfl) (.inr ⟨rfl, by kernel_rfl⟩)
      obtain ⟨g6, hg6, r6, hb6⟩ := hw15
      obtain ⟨u, rfl, hu⟩ := hv25
      rw [hg6] at hx15
      clear hin hout
      intro K Q hK
      obtain ⟨A5, c5, rfl, _⟩ := own_slice_form hu
      refine wp_store_row 31 (.tmp 4) (.tmp 25) rfl g6 (repCells (wd i) (bd x4) (.slice A5 m c5)) (eval_of_get hx15) (eval_of_get e25) 31 (repCells 0 0 (.slice none 0 0)) r6 (by exact size_rep) rfl (one_rep _ _ _ _ _) ?_
      have hgr := grown_setRow W g6 (repCells (wd i) (bd x4) (.slice A5 m c5))
      exact hK (x 15) _ ⟨⟨hP.1.far hgr (Nat.le_trans HB0.out hb6) (fun b hb => by have := HLT.out b hb; omega), hP.2.1.far hgr (by have := HGB.out; omega), Nat.le_trans hP.2.2 hgr.size⟩, ⟨g6, _, hg6, r6.setRow _, hb6, own_chg hu ((Chg.refl (fun k => k = g6) W).grown hgr (fun k e => by cases e; exact .inl rfl)) (own_apart hu r6 (by decide))⟩, al_one rfl rfl⟩
    exact all_end (by decide)
  · intro x W hP hV hal
    obtain ⟨g6, u, h8, r6, hb6, hu⟩ := hV 16 (by decide) (.inr (by kernel_rfl))
    have h7 : x 15 = .pointer (some ⟨g6, 0, none⟩) := (hal 16 (by decide) 15 rfl).symm.trans h8
    have HS := hP.1
    have HBA := Lib.hid hP.2.1
    obtain ⟨A5, c5, rfl, _⟩ := own_slice_form hu
    have R6 := Lib.hid r6
    have HU := Lib.hid hu
    have HW0 : Hid (B0 ≤ W.heap.size) := Lib.hid hP.2.2
    clear hV hP hal h8 r6 hb6 hu
    simp only [putL, Act.put, List.setIfInBounds_toArray, List.set_cons_succ, List.set_cons_zero, h7]
    simp only [Nat.zero_add, Nat.reduceAdd]
    refine wpAnyH_done (by kernel_rfl) ?_ _
    clear h7
    have HSU : Hid (Slice W (.slice A5 m c5) d) := Lib.hid (by have h := HU.out; rw [← HDL.out] at h ⊢; exact own_slice h)
    have HNU := Lib.hid (own_nil HU.out)
    have CE := repenc_good (wd i) (bd x4) A5 m c5 d HDL.out W HSU.out (fun e => HNU.out m c5 (by rw [e])) HMR.out
    go_wp2_with (first | ((with_reducible refine wpList_plain ?_ ?_); exact rfl; intro KK hKK; refine wp_load_row 31 (.tmp 4) rfl g6 rfl 31 (repCells (wd i) (bd x4) (.slice A5 m c5)) (0, 0) _ R6.out Try.underlying31 rfl (by exact size_rep) (hKK _ _ ?_); clear hKK KK))
    refine CE.mono ?_
    rintro e w5 ⟨v5, rfl, ho5, hb5⟩
    have HSx := HS.same hb5
    have R6x := Lib.hid (R6.out.call hb5)
    have HUx := Lib.hid (owns_call HU.out hb5)
    have HIN := Lib.hid ((HBA.out.call hb5).slice HQL.out HCC.out)
    have HV5 := Lib.hid (own_slice ho5)
    obtain ⟨A6, c6, rfl, _⟩ := own_slice_form ho5
    have HEQ := Lib.hid (equal_any (repB (wd i) (bd x4) d) q _ _ w5 HV5.out HIN.out)
    clear HS hb5 R6 HU CE HSU HNU HBA ho5 HV5 HIN
    have HS := HSx
    have R6 := R6x
    have HU := HUx
    clear HSx R6x HUx
    rw [decide_eq_false HBQ.out] at HEQ
    obtain ⟨ln, hln⟩ : ∃ ln, (repB (wd i) (bd x4) d).length = ln := ⟨_, rfl⟩
    rw [hln] at HEQ
    try rw [hln]
    clear hln
    go_wp2_with fail
    refine HEQ.out.mono ?_
    rintro e w6 ⟨rfl, rfl⟩
    clear HEQ
    go_wp2_with (first | ((with_reducible refine wpList_plain ?_ ?_); exact rfl; intro KK hKK; refine wp_st_store HS 0 0 31 (.tmp 2) (.tmp 39) rfl rfl rfl (.agg (repCells 0 0 (.slice none 0 0))) rfl (by exact size_rep) (Nat.le_refl 3) (one_rep _ _ _ _ _) (repCells 0 0 (.slice none 0 0)) (spl_agg _ _ _ rfl rfl) (fun W41 HSx => hKK _ _ ?_); clear hKK KK HS; have HS : St w noF [⟨g2, 31, repCells 0 0 (.slice none 0 0)⟩] W41 := HSx; clear HSx))
    exact bodyPost_ret (v := .tuple #[.agg (repCells 0 0 (.slice none 0 0)), .int .i64 11]) (results_cell_tmp Try.results15 _ _ g2 31 (repCells 0 0 (.slice none 0 0)) (0, 0) _ rfl (HS.row 0 rfl) Try.underlying31 rfl (by exact size_rep)) rfl ⟨rfl, HS.below⟩
set_option maxRecDepth 20000 in
set_option maxHeartbeats 1600000 in
theorem repdec_good (g o cc m : Nat) (q : List (BitVec 8)) (w : World) (hB : BAt w g o q) (hl : q.length = m + 8) (hc : m + 8 ≤ cc) (hm : m ≤ 999999990) (hmr : mayR (rpI q) (rpE q) m = true) (hbq : (repB (rpI q) (rpE q) (rpD q) = q)) :
    Calls Try.prog 15 #[.slice (some ⟨g, o, none⟩) (m + 8) cc] w fun e w' => ∃ v, e = .returned (.tuple #[.agg (repCells (rpI q) (rpE q) v), .int .i64 0]) ∧ w'.ownsRow w.heap.size 5 1 v m (bytesV (rpD q)) ∧ Below w.heap.size w w' := by
  have HBA0 := Lib.hid hB
  have HQL := Lib.hid hl
  have HCC := Lib.hid hc
  have HM := Lib.hid hm
  have k0 : ¬ cc = 0 := by omega
  have k6 : ¬ cc = 6 := by omega
  have l6 : 6 ≤ cc := by omega
  have l8 : ¬ (m : Int) + 8 < 8 := by omega
  have l4 : (4 : Int) < (m : Int) + 8 := by omega
  have l4n : 4 < m + 8 := by omega
  have l66 : (6 : Int) ≤ (m : Int) + 6 := by omega
  have lmc : (m : Int) + 6 ≤ (cc : Int) := by omega
  have lmn : m + 6 ≤ cc := by omega
  obtain ⟨x4, hx4⟩ : ∃ x, q.getD 4 0#8 = x := ⟨_, rfl⟩
  obtain ⟨i, hi⟩ : ∃ i, lv 0 q = i := ⟨_, rfl⟩
  obtain ⟨d, hd⟩ : ∃ d, (q.drop 6).take m = d := ⟨_, rfl⟩
  have HX4 := Lib.hid hx4
  have HI := Lib.hid hi
  have HD := Lib.hid hd
  have HDL : Hid (d.length = m) := Lib.hid (by rw [← hd, List.length_take, List.length_drop, hl]; omega)
  have hri : rpI q = wd i := by unfold rpI; rw [hi]
  have hre : rpE q = bd x4 := by unfold rpE; rw [hx4]
  have hrd : rpD q = d := by unfold rpD; rw [hl]; exact hd
  rw [hri, hre, hrd]
  rw [hri, hre] at hmr
  have HMR := Lib.hid hmr
  clear hmr
  rw [hri, hre, hrd] at hbq
  have HBQ := Lib.hid hbq
  clear hbq
  clear hB hl hc hm hx4 hi hd hri hre hrd
  have HS := St.nil w noF
  go_enter Try.func15, Try.ntmps15
  go_upto_region 1 with (first | ((with_reducible refine wpList_plain ?_ ?_); exact rfl; intro KK hKK; refine wp_st_alloc HS 31 (repCells 0 0 (.slice none 0 0)) rfl (.agg (repCells 0 0 (.slice none 0 0))) (by kernel_rfl) (rfl) (fun g2 W1 HSx => hKK _ _ ?_); clear hKK KK HS; have HS : St w noF [⟨g2, 31, repCells 0 0 (.slice none 0 0)⟩] W1 := HSx; clear HSx))
  have HS := HS
  obtain ⟨B0, hB0⟩ : ∃ B0, W1.heap.size = B0 := ⟨_, rfl⟩
  have HBA1 : BAt W1 g o q := HBA0.out.call HS.below
  have HB0 : Hid (w.heap.size ≤ B0) := Lib.hid (by rw [← hB0]; exact HS.below.size)
  have HLT : Hid (∀ b ∈ ([⟨g2, 31, repCells 0 0 (.slice none 0 0)⟩] : List Blk), b.g < B0) := Lib.hid (by rw [← hB0]; exact fun b hb => HS.lt hb)
  have HGB : Hid (g < B0) := Lib.hid (by rw [← hB0]; exact HBA1.lt)
  have HBB : Hid (B0 ≤ W1.heap.size) := Lib.hid (Nat.le_of_eq hB0.symm)
  clear hB0 HBA0
  go_upto_region 3 with fail
  have hF0 : Wl [fun W => St w noF [⟨g2, 31, repCells 0 0 (.slice none 0 0)⟩] W ∧ BAt W g o q ∧ B0 ≤ W.heap.size, fun W => St w noF [⟨g2, 31, repCells 0 0 (.slice none 0 0)⟩] W ∧ BAt W g o q ∧ B0 ≤ W.heap.size] 0 W1.drew := ⟨HS.drew, HBA1.call (Below.refl _ _).drew, HBB.out⟩
  clear HS HBA1 HBB
  refine wp_region_phas [is (.slice (some ⟨g, o, none⟩) (m + 8) cc), is (.slice (some ⟨g, o, none⟩) (m + 8) cc), is (.int .u32 (wd i)), is (.int .i64 (wd i)), is (.slice (some ⟨g, o, none⟩) (m + 8) cc), is (.pointer (some ⟨g, o + 4, none⟩)), is (.int .u8 (bd x4)), is (.int .i64 (bd x4)), is (.slice (some ⟨g, o, none⟩) (m + 8) cc), is (.slice (some ⟨g, o, none⟩) (m + 8) cc), is (.int .i64 ((m : Int) + 8)), is (.int .i64 ((m : Int) + 6)), is (.slice (some ⟨g, o + 6, none⟩) m (cc - 6)), (fun u W => W.ownsRow B0 5 1 u m (bytesV d)), (fun v W => ∃ u, v = Value.agg (repCells (wd i) (bd x4) u) ∧ W.ownsRow B0 5 1 u m (bytesV d)), (fun v W => ∃ k, v = Value.pointer (some ⟨k, 0, none⟩) ∧ Row W k 31 (repCells 0 0 (.slice none 0 0)) ∧ B0 ≤ k), (fun v W => ∃ k u, v = Value.pointer (some ⟨k, 0, none⟩) ∧ Row W k 31 (repCells (wd i) (bd x4) u) ∧ B0 ≤ k ∧ W.ownsRow B0 5 1 u m (bytesV d))] [true, true, true, true, true, true, true, true, true, true, true, true, true, false, false, false, false] [(fun W => St w noF [⟨g2, 31, repCells 0 0 (.slice none 0 0)⟩] W ∧ BAt W g o q ∧ B0 ≤ W.heap.size), (fun W => St w noF [⟨g2, 31, repCells 0 0 (.slice none 0 0)⟩] W ∧ BAt W g o q ∧ B0 ≤ W.heap.size)] [false, false, false, false, false, false, false, false, false, false, false, false, false, false, false, false, true] [some 0, some 0, some 0, some 0, some 0, some 0, some 0, some 0, some 0, some 0, some 0, some 0, some 0, some 0, some 0, some 0, some 0] [none, none, none, none, none, none, none, none, none, none, none, none, none, none, none, none, some 15] [some 11, some 12, some 13, some 14, some 15, some 16, some 17, some 18, some 19, some 20, some 21, some 22, some 23, some 24, some 25, some 4, none] 17 1 (fun _ => true) rfl rfl (by kernel_rfl) (by kernel_rfl) (by kernel_rfl) (by kernel_rfl) (by kernel_rfl) ?_ ?_ ?_ ?_ ?_ ?_
  · repeat first | exact wok_nil | refine wok_cons (by first | exact fun _ _ h k => ⟨h.1.same k, h.2.1.call k, Nat.le_trans h.2.2 k.size⟩) ?_
  · repeat first | exact vok_nil | refine vok_rig (by first | exact fun _ _ _ h => h) ?_ | refine vok_soft (by first | exact fun _ _ _ h _ => h | exact fun _ _ _ h k => owns_call h k | exact fun _ _ _ h k => ⟨h.choose, h.choose_spec.1, h.choose_spec.2.1.call k, h.choose_spec.2.2⟩ | exact fun _ _ _ h k => ⟨h.choose, h.choose_spec.1, owns_call h.choose_spec.2 k⟩ | exact fun _ _ _ h k => ⟨h.choose, h.choose_spec.choose, h.choose_spec.choose_spec.1, h.choose_spec.choose_spec.2.1.call k, h.choose_spec.choose_spec.2.2.1, owns_call h.choose_spec.choose_spec.2.2.2 k⟩) ?_
  · exact hF0
  · repeat first | exact all_end (by decide) | refine all_cons (by first | exact rfl | exact ⟨rfl, fun _ _ h => Or.inl h⟩ | exact ⟨rfl, fun _ _ h => Or.inr ⟨h, rfl⟩⟩) ?_
  · refine alla_old rfl (step_mild 0 rfl rfl rfl (fun a x W hout hin hP => ?_)) ?_
    · have e0 : a.tmps[0]? = some (.slice (some ⟨g, o, none⟩) (m + 8) cc) := (hout 0 (by kernel_rfl)).trans rfl
      exact does_move rfl e0 ⟨Same.refl _, rfl⟩
    refine alla_old rfl (step_mild 0 rfl rfl rfl (fun a x W hout hin hP => ?_)) ?_
    · have e11 := hin.is 0 11 (by kernel_rfl) (by decide) (by kernel_rfl) (by kernel_rfl) _ rfl
      clear hin hout
      intro K Q hK
      go_simp
      exact hK _ _ ⟨Same.refl _, rfl⟩
    refine alla_old rfl (step_mild 0 rfl rfl rfl (fun a x W hout hin hP => ?_)) ?_
    · have e12 := hin.is 1 12 (by kernel_rfl) (by decide) (by kernel_rfl) (by kernel_rfl) _ rfl
      have C := long_at g o (m + 8) cc q W hP.2.1 (by rw [HQL.out]; omega) (by omega) HCC.out
      rw [HI.out] at C
      clear hP
      clear hin hout
      intro K Q hK
      go_simp
      refine C.mono ?_
      rintro e W' ⟨rfl, hb⟩
      exact hK _ _ ⟨hb, rfl⟩
    refine alla_old rfl (step_mild 0 rfl rfl rfl (fun a x W hout hin hP => ?_)) ?_
    · have e13 := hin.is 2 13 (by kernel_rfl) (by decide) (by kernel_rfl) (by kernel_rfl) _ rfl
      have hw := i64_wd i
      clear hin hout
      intro K Q hK
      go_simp
      exact hK _ _ ⟨Same.refl _, rfl⟩
    refine alla_old rfl (step_mild 0 rfl rfl rfl (fun a x W hout hin hP => ?_)) ?_
    · have e0 : a.tmps[0]? = some (.slice (some ⟨g, o, none⟩) (m + 8) cc) := (hout 0 (by kernel_rfl)).trans rfl
      exact does_move rfl e0 ⟨Same.refl _, rfl⟩
    refine alla_old rfl (step_mild 0 rfl rfl rfl (fun a x W hout hin hP => ?_)) ?_
    · have e15 := hin.is 4 15 (by kernel_rfl) (by decide) (by kernel_rfl) (by kernel_rfl) _ rfl
      clear hin hout
      intro K Q hK
      go_simp
      exact hK _ _ ⟨Same.refl _, rfl⟩
    refine alla_old rfl (step_mild 0 rfl rfl rfl (fun a x W hout hin hP => ?_)) ?_
    · have e16 := hin.is 5 16 (by kernel_rfl) (by decide) (by kernel_rfl) (by kernel_rfl) _ rfl
      have hc : W.cell? ⟨g, o + 4, none⟩ = some (.int .u8 (bd x4)) := HX4.out ▸ hP.2.1.get 4 (by rw [HQL.out]; omega)
      clear hP
      clear hin hout
      intro K Q hK
      go_simp
      exact hK _ _ ⟨Same.refl _, rfl⟩
    refine alla_old rfl (step_mild 0 rfl rfl rfl (fun a x W hout hin hP => ?_)) ?_
    · have e17 := hin.is 6 17 (by kernel_rfl) (by decide) (by kernel_rfl) (by kernel_rfl) _ rfl
      have hw := i64_bd x4
      clear hin hout
      intro K Q hK
      go_simp
      exact hK _ _ ⟨Same.refl _, rfl⟩
    refine alla_old rfl (step_mild 0 rfl rfl rfl (fun a x W hout hin hP => ?_)) ?_
    · have e0 : a.tmps[0]? = some (.slice (some ⟨g, o, none⟩) (m + 8) cc) := (hout 0 (by kernel_rfl)).trans rfl
      exact does_move rfl e0 ⟨Same.refl _, rfl⟩
    refine alla_old rfl (step_mild 0 rfl rfl rfl (fun a x W hout hin hP => ?_)) ?_
    · have e0 : a.tmps[0]? = some (.slice (some ⟨g, o, none⟩) (m + 8) cc) := (hout 0 (by kernel_rfl)).trans rfl
      exact does_move rfl e0 ⟨Same.refl _, rfl⟩
    refine alla_old rfl (step_mild 0 rfl rfl rfl (fun a x W hout hin hP => ?_)) ?_
    · have e20 := hin.is 9 20 (by kernel_rfl) (by decide) (by kernel_rfl) (by kernel_rfl) _ rfl
      clear hin hout
      intro K Q hK
      go_simp
      exact hK _ _ ⟨Same.refl _, rfl⟩
    refine alla_old rfl (step_mild 0 rfl rfl rfl (fun a x W hout hin hP => ?_)) ?_
    · have e21 := hin.is 10 21 (by kernel_rfl) (by decide) (by kernel_rfl) (by kernel_rfl) _ rfl
      have hw : IntKind.i64.wrap ((m : Int) + 8 - 2) = (m : Int) + 6 := by rw [show (m : Int) + 8 - 2 = (m : Int) + 6 by omega]; exact i64_id _ (by omega) (by have := HM.out; omega)
      clear hin hout
      intro K Q hK
      go_simp
      exact hK _ _ ⟨Same.refl _, rfl⟩
    refine alla_old rfl (step_mild 0 rfl rfl rfl (fun a x W hout hin hP => ?_)) ?_
    · have e19 := hin.is 8 19 (by kernel_rfl) (by decide) (by kernel_rfl) (by kernel_rfl) _ rfl
      have e22 := hin.is 11 22 (by kernel_rfl) (by decide) (by kernel_rfl) (by kernel_rfl) _ rfl
      clear hin hout
      intro K Q hK
      go_simp
      exact hK _ _ ⟨Same.refl _, rfl⟩
    refine alla_old rfl (step_mild 0 rfl rfl rfl (fun a x W hout hin hP => ?_)) ?_
    · have e23 := hin.is 12 23 (by kernel_rfl) (by decide) (by kernel_rfl) (by kernel_rfl) _ rfl
      have HD6 : Slice W (.slice (some ⟨g, o + 6, none⟩) m (cc - 6)) d := HD.out ▸ ((hP.2.1.drop 6).take m).slice (by rw [HD.out]; exact HDL.out) (by have := HCC.out; omega)
      have hbse := hP.2.2
      have C := clone_any ⟨g, o + 6, none⟩ m (cc - 6) d HDL.out W HD6 (by have := HM.out; omega)
      clear hP HD6
      clear hin hout
      intro K Q hK
      go_simp
      refine C.mono ?_
      rintro e W' ⟨u, rfl, ho, hb⟩
      exact hK _ _ ⟨hb, own_base ho hbse⟩
    refine alla_old rfl (step_mild 0 rfl rfl rfl (fun a x W hout hin hP => ?_)) ?_
    · have e14 := hin.is 3 14 (by kernel_rfl) (by decide) (by kernel_rfl) (by kernel_rfl) _ rfl
      have e18 := hin.is 7 18 (by kernel_rfl) (by decide) (by kernel_rfl) (by kernel_rfl) _ rfl
      obtain ⟨v24, e24, hv24⟩ := hin.get 13 24 (by kernel_rfl) (by decide) (by kernel_rfl) (.inr ⟨rfl, by kernel_rfl⟩)
      clear hin hout hP
      intro K Q hK
      refine wp_buildStruct 31 _ rfl places_rep [.int .i64 (wd i), .int .i64 (bd x4), v24] ?_ ?_ ?_ ?_
      · simp only [List.map_toArray, List.map_cons, List.map_nil, eval_of_get e14, eval_of_get e18, eval_of_get e24]; rfl
      · obtain ⟨A5, c5, rfl, _⟩ := own_slice_form hv24; rfl
      · obtain ⟨A5, c5, rfl, _⟩ := own_slice_form hv24; rfl
      · obtain ⟨A5, c5, rfl, _⟩ := own_slice_form hv24; exact hK _ _ ⟨Same.refl _, _, rfl, hv24⟩
    refine alla_old rfl (step_mild 0 rfl rfl rfl (fun a x W hout hin hP => ?_)) ?_
    · have hbse := hP.2.2
      clear hP hin hout
      intro K Q hK
      have hz : (Try.prog.info? 31).bind (·.zero) = some (.agg (repCells 0 0 (.slice none 0 0))) := zero_rep
      refine wp_new_row 31 (repCells 0 0 (.slice none 0 0)) rfl hz ?_
      exact hK _ _ ⟨Same.alloc _ _, _, rfl, Row.fresh _ _ _, hbse⟩
    refine alla_wild 0 rfl rfl rfl (fun a x W hout hin hP => ?_) ?_
    · obtain ⟨hw15, hx15⟩ := hin 15 (by kernel_rfl) (by decide)
      have hw15 := hw15 (.inr ⟨rfl, by kernel_rfl⟩)
      have hx15 := hx15 4 (by kernel_rfl)
      obtain ⟨v25, e25, hv25⟩ := hin.get 14 25 (by kernel_rfl) (by decide) (by kernel_rfl) (.inr ⟨rfl, by kernel_rfl⟩)
      obtain ⟨g6, hg6, r6, hb6⟩ := hw15
      obtain ⟨u, rfl, hu⟩ := hv25
      rw [hg6] at hx15
      clear hin hout
      intro K Q hK
      obtain ⟨A5, c5, rfl, _⟩ := own_slice_form hu
      refine wp_store_row 31 (.tmp 4) (.tmp 25) rfl g6 (repCells (wd i) (bd x4) (.slice A5 m c5)) (eval_of_get hx15) (eval_of_get e25) 31 (repCells 0 0 (.slice none 0 0)) r6 (by exact size_rep) rfl (one_rep _ _ _ _ _) ?_
      have hgr := grown_setRow W g6 (repCells (wd i) (bd x4) (.slice A5 m c5))
      exact hK (x 15) _ ⟨⟨hP.1.far hgr (Nat.le_trans HB0.out hb6) (fun b hb => by have := HLT.out b hb; omega), hP.2.1.far hgr (by have := HGB.out; omega), Nat.le_trans hP.2.2 hgr.size⟩, ⟨g6, _, hg6, r6.setRow _, hb6, own_chg hu ((Chg.refl (fun k => k = g6) W).grown hgr (fun k e => by cases e; exact .inl rfl)) (own_apart hu r6 (by decide))⟩, al_one rfl rfl⟩
    exact all_end (by decide)
  · intro x W hP hV hal
    obtain ⟨g6, u, h8, r6, hb6, hu⟩ := hV 16 (by decide) (.inr (by kernel_rfl))
    have h7 : x 15 = .pointer (some ⟨g6, 0, none⟩) := (hal 16 (by decide) 15 rfl).symm.trans h8
    have HS := hP.1
    have HBA := Lib.hid hP.2.1
    obtain ⟨A5, c5, rfl, _⟩ := own_slice_form hu
    have R6 := Lib.hid r6
    have HU := Lib.hid hu
    have HW0 : Hid (B0 ≤ W.heap.size) := Lib.hid hP.2.2
    clear hV hP hal h8 r6 hb6 hu
    simp only [putL, Act.put, List.setIfInBounds_toArray, List.set_cons_succ, List.set_cons_zero, h7]
    simp only [Nat.zero_add, Nat.reduceAdd]
    refine wpAnyH_done (by kernel_rfl) ?_ _
    clear h7
    have HSU : Hid (Slice W (.slice A5 m c5) d) := Lib.hid (by have h := HU.out; rw [← HDL.out] at h ⊢; exact own_slice h)
    have HNU := Lib.hid (own_nil HU.out)
    have CE := repenc_good (wd i) (bd x4) A5 m c5 d HDL.out W HSU.out (fun e => HNU.out m c5 (by rw [e])) HMR.out
    go_wp2_with (first | ((with_reducible refine wpList_plain ?_ ?_); exact rfl; intro KK hKK; refine wp_load_row 31 (.tmp 4) rfl g6 rfl 31 (repCells (wd i) (bd x4) (.slice A5 m c5)) (0, 0) _ R6.out Try.underlying31 rfl (by exact size_rep) (hKK _ _ ?_); clear hKK KK))
    refine CE.mono ?_
    rintro e w5 ⟨v5, rfl, ho5, hb5⟩
    have HSx := HS.same hb5
    have R6x := Lib.hid (R6.out.call hb5)
    have HUx := Lib.hid (owns_call HU.out hb5)
    have HIN := Lib.hid ((HBA.out.call hb5).slice HQL.out HCC.out)
    have HV5 := Lib.hid (own_slice ho5)
    obtain ⟨A6, c6, rfl, _⟩ := own_slice_form ho5
    have HEQ := Lib.hid (equal_any (repB (wd i) (bd x4) d) q _ _ w5 HV5.out HIN.out)
    clear HS hb5 R6 HU CE HSU HNU HBA ho5 HV5 HIN
    have HS := HSx
    have R6 := R6x
    have HU := HUx
    clear HSx R6x HUx
    rw [decide_eq_true HBQ.out] at HEQ
    obtain ⟨ln, hln⟩ : ∃ ln, (repB (wd i) (bd x4) d).length = ln := ⟨_, rfl⟩
    rw [hln] at HEQ
    try rw [hln]
    clear hln
    go_wp2_with fail
    refine HEQ.out.mono ?_
    rintro e w6 ⟨rfl, rfl⟩
    clear HEQ
    go_wp2_with (first | ((with_reducible refine wpList_plain ?_ ?_); exact rfl; intro KK hKK; refine wp_load_row 31 (.tmp 4) rfl g6 rfl 31 (repCells (wd i) (bd x4) (.slice A5 m c5)) (0, 0) _ R6.out Try.underlying31 rfl (by exact size_rep) (hKK _ _ ?_); clear hKK KK) | ((with_reducible refine wpList_plain ?_ ?_); exact rfl; intro KK hKK; refine wp_store_row 31 (.tmp 2) (.tmp 40) rfl g2 (repCells (wd i) (bd x4) (.slice A5 m c5)) rfl rfl 31 (repCells 0 0 (.slice none 0 0)) (HS.row 0 rfl) (by exact size_rep) rfl (one_rep _ _ _ _ _) (hKK _ _ ?_); clear hKK KK; have hgr := grown_setRow w5 g2 (repCells (wd i) (bd x4) (.slice A5 m c5)); have HU2 := Lib.hid (own_chg HU.out ((Chg.refl (fun k => k = g2) w5).grown hgr (fun k e => by cases e; exact .inl rfl)) (own_apart (t := 31) HU.out (HS.row 0 rfl) (by decide))); have R2 := Lib.hid ((HS.row 0 rfl).setRow (repCells (wd i) (bd x4) (.slice A5 m c5))); have HB2 := Lib.hid (HS.below.trans (below_only hgr (by rcases HS.own 0 _ rfl with h | h; exact (show False from h).elim; exact h) HS.below.size)); clear hgr HS HU R6))
    exact bodyPost_ret (v := .tuple #[.agg (repCells (wd i) (bd x4) (.slice A5 m c5)), .int .i64 0]) (results_cell_tmp Try.results15 _ _ g2 31 (repCells (wd i) (bd x4) (.slice A5 m c5)) (0, 0) _ rfl R2.out Try.underlying31 rfl (by exact size_rep)) rfl ⟨_, rfl, own_base HU2.out HB0.out, HB2.out⟩
end Go.Proofs.Ytamofhjnpahamaa

/- Replies and their bytes: each is told by the other; the program's Decode of any bytes. -/
set_option maxRecDepth 4000
namespace Go.Proofs.Ytamofhjnpahamaa
open Go Go.RowKit
theorem len_r4 (v : BitVec 32) : (le v 4).length = 4 := by simp [le]
theorem lv_four (v : BitVec 32) (r : List (BitVec 8)) : lv 0 (four v ++ r) = v := by
  rw [four_le, lv_num _ 0 (by rw [List.length_append, len_r4]; omega), List.drop_zero, List.take_left' (len_r4 v), num_le4]
theorem bd_byteZ {z : Int} (h0 : 0 ≤ z) (h1 : z ≤ 255) : bd (byteZ z) = z := by
  unfold bd byteZ; rw [BitVec.toNat_ofInt]; omega
theorem wd_wordZ {z : Int} (h0 : 0 ≤ z) (h1 : z ≤ 2147483647) : wd (wordZ z) = z := by
  unfold wd wordZ; rw [BitVec.toNat_ofInt]; omega
theorem rep_back {i e : Int} {d : List (BitVec 8)} (h : mayR i e d.length = true) : rpI (repB i e d) = i ∧ rpE (repB i e d) = e ∧ rpD (repB i e d) = d ∧ rpOk (repB i e d) = true := by
  obtain ⟨h0, h1, h2, h3, _⟩ := mayR_of h
  have a1 : rpI (repB i e d) = i := by
    unfold rpI repB repH
    rw [List.append_assoc, List.append_assoc, lv_four, wd_wordZ h0 h1]
  have a2 : rpE (repB i e d) = e := by
    unfold rpE
    rw [show (repB i e d).getD 4 0#8 = byteZ e from rfl, bd_byteZ h2 h3]
  have a3 : rpD (repB i e d) = d := by
    unfold rpD
    rw [show (repB i e d).drop 6 = d ++ two (crcOf (repH i e d)) from rfl, length_repB, show 8 + d.length - 8 = d.length by omega, List.take_left]
  refine ⟨a1, a2, a3, ?_⟩
  unfold rpOk
  rw [a1, a2, a3, length_repB, show 8 + d.length - 8 = d.length by omega, h]
  simp
def reI (q : List (BitVec 8)) : Int := if rpOk q then rpI q else 0
def reE (q : List (BitVec 8)) : Int := if rpOk q then rpE q else 0
def reD (q : List (BitVec 8)) : List (BitVec 8) := if rpOk q then rpD q else []
def reG (q : List (BitVec 8)) : Int := if rpOk q then 0 else 11
theorem rp_of {q : List (BitVec 8)} (h : rpOk q = true) : 8 ≤ q.length ∧ mayR (rpI q) (rpE q) (q.length - 8) = true ∧ repB (rpI q) (rpE q) (rpD q) = q := by
  unfold rpOk at h
  simp only [Bool.and_eq_true, decide_eq_true_eq] at h
  exact ⟨h.1.1, h.1.2, h.2⟩
theorem length_rpD {q : List (BitVec 8)} : (rpD q).length = q.length - 8 := by unfold rpD; rw [List.length_take, List.length_drop]; omega
theorem repdec_any (A : Option Addr) (n cc : Nat) (q : List (BitVec 8)) (w : World) (hs : Slice w (.slice A n cc) q) (hq : q.length = n) (hn : n ≤ 999999990) :
    Calls Try.prog 15 #[.slice A n cc] w fun e w' => ∃ v, e = .returned (.tuple #[.agg (repCells (reI q) (reE q) v), .int .i64 (reG q)]) ∧ w'.ownsRow w.heap.size 5 1 v (reD q).length (bytesV (reD q)) ∧ Below w.heap.size w w' := by
  have bad : rpOk q = false → ∀ (e : Ending) (w' : World), e = .returned (.tuple #[.agg (repCells 0 0 (.slice none 0 0)), .int .i64 11]) ∧ Below w.heap.size w w' → ∃ v, e = .returned (.tuple #[.agg (repCells (reI q) (reE q) v), .int .i64 (reG q)]) ∧ w'.ownsRow w.heap.size 5 1 v (reD q).length (bytesV (reD q)) ∧ Below w.heap.size w w' := by
    rintro h e w' ⟨rfl, hb⟩
    have h1 : reI q = 0 := by unfold reI; rw [h]; rfl
    have h2 : reE q = 0 := by unfold reE; rw [h]; rfl
    have h3 : reD q = [] := by unfold reD; rw [h]; rfl
    have h4 : reG q = 11 := by unfold reG; rw [h]; rfl
    rw [h1, h2, h3, h4]
    exact ⟨_, rfl, World.ownsRow_nil _ _ _ _, hb⟩
  by_cases h8 : n < 8
  · have hr : rpOk q = false := by unfold rpOk; rw [decide_eq_false (by omega)]; rfl
    exact (repdec_len A n cc w h8).mono fun e w' h => bad hr e w' h
  obtain ⟨m, rfl⟩ : ∃ m, n = m + 8 := ⟨n - 8, by omega⟩
  obtain ⟨g, o, rfl, hB, hc⟩ := slice_bat hs (by omega)
  rw [hq] at hc
  have hm8 : q.length - 8 = m := by omega
  cases hm : mayR (rpI q) (rpE q) m with
  | false =>
    have hr : rpOk q = false := by unfold rpOk; rw [hm8, hm]; simp
    exact (repdec_no g o cc m q w hB hq hc (by omega) hm).mono fun e w' h => bad hr e w' h
  | true =>
    by_cases hb : repB (rpI q) (rpE q) (rpD q) = q
    · have hr : rpOk q = true := by unfold rpOk; rw [hm8, hm, decide_eq_true hb, decide_eq_true (by omega)]; rfl
      refine (repdec_good g o cc m q w hB hq hc (by omega) hm hb).mono ?_
      rintro e w' ⟨v, rfl, ho, hbb⟩
      have h1 : reI q = rpI q := by unfold reI; rw [hr]; rfl
      have h2 : reE q = rpE q := by unfold reE; rw [hr]; rfl
      have h3 : reD q = rpD q := by unfold reD; rw [hr]; rfl
      have h4 : reG q = 0 := by unfold reG; rw [hr]; rfl
      rw [h1, h2, h3, h4, length_rpD, hm8]
      exact ⟨v, rfl, ho, hbb⟩
    · have hr : rpOk q = false := by unfold rpOk; rw [decide_eq_false hb, Bool.and_false]
      exact (repdec_other g o cc m q w hB hq hc (by omega) hm hb).mono fun e w' h => bad hr e w' h
theorem re_back {i e : Int} {d : List (BitVec 8)} (h : mayR i e d.length = true) : reI (repB i e d) = i ∧ reE (repB i e d) = e ∧ reD (repB i e d) = d ∧ reG (repB i e d) = 0 := by
  obtain ⟨a1, a2, a3, a4⟩ := rep_back h
  refine ⟨?_, ?_, ?_, ?_⟩
  · unfold reI; rw [a4, a1]; rfl
  · unfold reE; rw [a4, a2]; rfl
  · unfold reD; rw [a4, a3]; rfl
  · unfold reG; rw [a4]; rfl
end Go.Proofs.Ytamofhjnpahamaa

/- The example of reply's statements. -/
set_option maxRecDepth 4000
namespace Go.Proofs.Ytamofhjnpahamaa
open Go Go.RowKit
def exL : List Rp := [(258, 7, [97#8, 98#8]), (0, 0, [])]
theorem exr_len : (repB 258 7 [97#8, 98#8]).length = 10 := length_repB _ _ _
theorem exr_may : mayR 258 7 2 = true := by decide +kernel
theorem exr_get : (repB 258 7 [97#8, 98#8]).getD 0 0#8 = 2#8 ∧ (repB 258 7 [97#8, 98#8]).getD 1 0#8 = 1#8 ∧ (repB 258 7 [97#8, 98#8]).getD 4 0#8 = 7#8 ∧ (repB 258 7 [97#8, 98#8]).getD 5 0#8 = 2#8 ∧ (repB 258 7 [97#8, 98#8]).getD 6 0#8 = 97#8 := by decide +kernel
theorem exr_jn : jnE exL = 0 ∧ (jnB exL).length = 18 := by
  have h : exL.all okR = true := by decide +kernel
  unfold jnE jnB
  rw [h]
  refine ⟨rfl, ?_⟩
  show ((exL.map bytR).flatten).length = 18
  unfold exL bytR
  simp [length_repB]
set_option maxHeartbeats 1600000 in
theorem rpwakes_any (w : World) : Calls Try.prog 8 #[] w fun e w' => e = .returned (.bool true) ∧ Below w.heap.size w w' := by
  obtain ⟨B, hB⟩ : ∃ B, repB 258 7 [97#8, 98#8] = B := ⟨_, rfl⟩
  have HBL : Hid (B.length = 10) := Lib.hid (by rw [← hB]; exact exr_len)
  have HGET : Hid (B.getD 0 0#8 = 2#8 ∧ B.getD 1 0#8 = 1#8 ∧ B.getD 4 0#8 = 7#8 ∧ B.getD 5 0#8 = 2#8 ∧ B.getD 6 0#8 = 97#8) := Lib.hid (by rw [← hB]; exact exr_get)
  have HBK := re_back (i := 258) (e := 7) (d := [97#8, 98#8]) exr_may
  have HEN := Lib.hid (fun A c (w : World) (hs : Slice w (.slice A 2 c) [97#8, 98#8]) hA => repenc_good 258 7 A 2 c [97#8, 98#8] rfl w hs hA exr_may)
  have HBD := Lib.hid (fun w => repenc_bad (-1) 0 none 0 0 w (by decide +kernel))
  rw [hB] at HBK HEN
  rw [HBL.out] at HEN
  have HDC : Hid (∀ A cc w, Slice w (.slice A 10 cc) B → Calls Try.prog 15 #[.slice A 10 cc] w fun e w' => ∃ v, e = .returned (.tuple #[.agg (repCells 258 7 v), .int .i64 0]) ∧ w'.ownsRow w.heap.size 5 1 v 2 (bytesV [97#8, 98#8]) ∧ Below w.heap.size w w') := Lib.hid (fun A cc w hs => by
    have := repdec_any A 10 cc B w hs HBL.out (by decide)
    rw [HBK.1, HBK.2.1, HBK.2.2.1, HBK.2.2.2] at this
    exact this)
  clear hB HBK
  have HSL : Hid (Slice (w.alloc (.cells #[.int .u8 97, .int .u8 98] 5 (2, 3))) (.slice (some ⟨w.heap.size, 0, none⟩) 2 2) [97#8, 98#8]) := Lib.hid (slice_mark w 5 (2, 3) [97#8, 98#8] rfl (Nat.le_refl 2))
  have HW0 : Hid (Below w.heap.size w (w.alloc (.cells #[.int .u8 97, .int .u8 98] 5 (2, 3)))) := Lib.hid ((Below.refl _ _).alloc (Nat.le_refl _) _)
  have HG0 : Hid (w.heap.size < (w.alloc (.cells #[.int .u8 97, .int .u8 98] 5 (2, 3))).heap.size) := Lib.hid (by simp)
  have HS := St.nil (w.alloc (.cells #[.int .u8 97, .int .u8 98] 5 (2, 3))) noF
  have kc := fun (w : World) (C : Array Value) (n c : Nat) => Lib.run_convert_bytes_const (P := Try.prog) w 23 5 C n c Try.underlying23 Try.underlying5
  go_enter Try.func8, Try.ntmps8
  go_upto_region 1 with fail
  go_upto_region 2 with (first | ((with_reducible refine wpList_plain ?_ ?_); exact rfl; intro KK hKK; refine wp_st_alloc HS 31 (repCells 0 0 (.slice none 0 0)) rfl (.agg (repCells 0 0 (.slice none 0 0))) (by kernel_rfl) (rfl) (fun g1 W1 HSx => hKK _ _ ?_); clear hKK KK HS; have HS : St (w.alloc (.cells #[.int .u8 97, .int .u8 98] 5 (2, 3))) noF [⟨g1, 31, repCells 0 0 (.slice none 0 0)⟩] W1 := HSx; clear HSx) | ((with_reducible refine wpList_plain ?_ ?_); exact rfl; intro KK hKK; refine wp_st_store HS 0 0 31 (.tmp 1) (.tmp 12) rfl rfl rfl (.agg (repCells 258 7 (.slice (some ⟨w.heap.size, 0, none⟩) 2 2))) rfl (by exact size_rep) (Nat.le_refl _) (rep_one ..) (repCells 258 7 (.slice (some ⟨w.heap.size, 0, none⟩) 2 2)) (by exact spl_agg _ _ _ rfl rfl) (fun W2 HSx => hKK _ _ ?_); clear hKK KK HS; have HS : St (w.alloc (.cells #[.int .u8 97, .int .u8 98] 5 (2, 3))) noF [⟨g1, 31, repCells 258 7 (.slice (some ⟨w.heap.size, 0, none⟩) 2 2)⟩] W2 := HSx; clear HSx))
  clear kc
  obtain ⟨W0, hW0⟩ : ∃ W0, (w.alloc (.cells #[.int .u8 97, .int .u8 98] 5 (2, 3))) = W0 := ⟨_, rfl⟩
  rw [hW0] at HS HSL HW0 HG0
  clear hW0
  obtain ⟨g0, hg0⟩ : ∃ g0, w.heap.size = g0 := ⟨_, rfl⟩
  have HG := Lib.hid hg0
  rw [hg0] at HS HSL HG0
  clear hg0
  have C := HEN.out _ 2 W2 (HSL.out.below HS.below (Nat.le_refl _)) (fun h => by cases h)
  go_wp2_with (first | ((with_reducible refine wpList_plain ?_ ?_); exact rfl; intro KK hKK; refine wp_st_load HS 0 0 31 (.tmp 1) rfl rfl rfl (repCells 258 7 (.slice (some ⟨g0, 0, none⟩) 2 2)) (slab_whole _) _ Try.underlying31 rfl (by exact size_rep) (hKK _ _ ?_); clear hKK KK))
  refine C.mono ?_
  rintro e w1 ⟨v1, rfl, ho, hb1⟩
  have HSx := HS.same hb1
  clear HS hb1 HEN C
  have HS := HSx
  clear HSx
  have hs := own_slice (by rw [HBL.out]; exact ho)
  obtain ⟨A, cc, rfl, hcc⟩ := own_slice_form ho
  obtain ⟨gb, ob, rfl, hba, _⟩ := slice_bat hs (by rw [HBL.out]; decide)
  have HBA := Lib.hid hba
  have C := HDC.out (some ⟨gb, ob, none⟩) cc w1 hs
  clear hs ho hba HDC
  go_upto_region 3 with fail
  go_wp2_with fail
  refine C.mono ?_
  rintro e w2 ⟨v2, rfl, ho2, hb2⟩
  have HSx := HS.same hb2
  have HBAy := Lib.hid (HBA.out.call hb2)
  clear HS hb2 C HBA
  have HS := HSx
  clear HSx
  have hn2 := own_nil ho2
  have HO2 := Lib.hid (own_slice ho2)
  obtain ⟨A2, c2, rfl, _⟩ := own_slice_form ho2
  have HZ2 := Lib.hid HS.below.size
  clear ho2
  have HB2 := Lib.hid (HW0.out.trans (HS.below.mono (by rw [HG.out]; exact Nat.le_of_lt HG0.out)))
  have HW2 := Lib.hid (HS.below)
  have HR1 : Hid (Row w2 g1 31 (repCells 258 7 (.slice (some ⟨g0, 0, none⟩) 2 2))) := Lib.hid (HS.row 0 rfl)
  clear HS
  have HT := St.nil w2 noF
  go_upto_region 4 with (first | ((with_reducible refine wpList_plain ?_ ?_); exact rfl; intro KK hKK; refine wp_st_alloc HT 31 (repCells 0 0 (.slice none 0 0)) rfl (.agg (repCells 0 0 (.slice none 0 0))) (by kernel_rfl) (rfl) (fun g4 W3 HSx => hKK _ _ ?_); clear hKK KK HT; have HT : St w2 noF [⟨g4, 31, repCells 0 0 (.slice none 0 0)⟩] W3 := HSx; clear HSx) | ((with_reducible refine wpList_plain ?_ ?_); exact rfl; intro KK hKK; refine wp_st_store HT 0 0 31 (.tmp 4) (.tmp 21) rfl rfl rfl (.agg (repCells 258 7 (.slice A2 2 c2))) rfl (by exact size_rep) (Nat.le_refl _) (rep_one ..) (repCells 258 7 (.slice A2 2 c2)) (by exact spl_agg _ _ _ rfl rfl) (fun W4 HSx => hKK _ _ ?_); clear hKK KK HT; have HT : St w2 noF [⟨g4, 31, repCells 258 7 (.slice A2 2 c2)⟩] W4 := HSx; clear HSx))
  have HB4 := Lib.hid (HB2.out.trans (HT.below.mono HB2.out.size))
  have HR14 : Hid (Row W4 g1 31 (repCells 258 7 (.slice (some ⟨g0, 0, none⟩) 2 2))) := Lib.hid (HR1.out.call HT.below)
  have HRW4 : Hid (Row W4 g4 31 (repCells 258 7 (.slice A2 2 c2))) := Lib.hid (HT.row 0 rfl)
  have HBA4 : Hid (BAt W4 gb ob B) := Lib.hid (HBAy.out.call HT.below)
  have hsl := HSL.out.below (HW2.out.trans (HT.below.mono HW2.out.size)) (Nat.le_refl _)
  have HRP : RepsAt (W4.alloc (.cells #[.int .i64 258, .int .i64 7, .slice (some ⟨g0, 0, none⟩) 2 2, .int .i64 0, .int .i64 0, .slice none 0 0] 31)) (.slice (some ⟨W4.heap.size, 0, none⟩) exL.length 2) exL := by
    refine reps_row (Row.fresh W4 31 #[.int .i64 258, .int .i64 7, .slice (some ⟨g0, 0, none⟩) 2 2, .int .i64 0, .int .i64 0, .slice none 0 0]) (Nat.le_refl _) (by decide) (fun k x hx => ?_)
    have hb : Below W4.heap.size W4 (W4.alloc (.cells #[.int .i64 258, .int .i64 7, .slice (some ⟨g0, 0, none⟩) 2 2, .int .i64 0, .int .i64 0, .slice none 0 0] 31)) := (Below.refl _ _).alloc (Nat.le_refl _) _
    rcases k with _ | _ | k
    · cases hx
      exact rep_at (hsl.below hb (Nat.le_refl _)) (fun h => by cases h) (by decide) (by decide) (by decide) (by decide) (by decide)
    · cases hx
      exact rep_at ⟨none, 0, rfl, Nat.le_refl _, fun h => absurd rfl h⟩ (fun _ => rfl) (by decide) (by decide) (by decide) (by decide) (by decide)
    · cases hx
  have C := repjoin_any _ _ _ exL _ HRP (by decide)
  rw [exr_jn.1, exr_jn.2] at C
  have HB5 := Lib.hid (HB4.out.alloc HB4.out.size (.cells #[.int .i64 258, .int .i64 7, .slice (some ⟨g0, 0, none⟩) 2 2, .int .i64 0, .int .i64 0, .slice none 0 0] 31))
  have HBN : Hid (Below W4.heap.size W4 (W4.alloc (.cells #[.int .i64 258, .int .i64 7, .slice (some ⟨g0, 0, none⟩) 2 2, .int .i64 0, .int .i64 0, .slice none 0 0] 31))) := Lib.hid ((Below.refl _ _).alloc (Nat.le_refl _) _)
  clear hsl HRP
  clear HT
  go_wp2_with (first | ((with_reducible refine wpList_plain ?_ ?_); exact rfl; intro KK hKK; refine wp_load_mid 31 (.tmp 1) rfl g1 0 rfl [.int .i64 258, .int .i64 7, .slice (some ⟨g0, 0, none⟩) 2 2] _ (HR14.out.slab 0 _ (slab_whole _)) Try.underlying31 rfl (by exact size_rep) (hKK _ _ ?_); clear hKK KK))
  refine C.mono ?_
  rintro e w5 ⟨v5, rfl, ho5, hb5⟩
  have HBN2 := Lib.hid (HBN.out.trans (hb5.mono HBN.out.size))
  have HB6 := Lib.hid (HB5.out.trans (hb5.mono HB5.out.size))
  obtain ⟨A5, c5, rfl, _⟩ := own_slice_form ho5
  clear hb5 C ho5 HB5 HBN
  go_wp2_with fail
  refine (HBD.out w5).mono ?_
  rintro e w6 ⟨rfl, hb6⟩
  have HB7 := Lib.hid (HB6.out.trans (hb6.mono HB6.out.size))
  have hb7 := HBN2.out.trans (hb6.mono HBN2.out.size)
  have HBA := Lib.hid (HBA4.out.call hb7)
  have HR4 := HRW4.out.call hb7
  clear hb6 hb7 HBD HBN2 HB6
  have q0 : w6.cell? ⟨g4, 0, none⟩ = some (.int .i64 258) := HR4.get rfl
  have q1 : w6.cell? ⟨g4, 1, none⟩ = some (.int .i64 7) := HR4.get rfl
  have d0 : w6.cell? ⟨gb, ob, none⟩ = some (.int .u8 2) := by have h := HBA.out.get 0 (by rw [HBL.out]; decide); rw [HGET.out.1] at h; exact h
  have d1 : w6.cell? ⟨gb, ob + 1, none⟩ = some (.int .u8 1) := by have h := HBA.out.get 1 (by rw [HBL.out]; decide); rw [HGET.out.2.1] at h; exact h
  have d4 : w6.cell? ⟨gb, ob + 4, none⟩ = some (.int .u8 7) := by have h := HBA.out.get 4 (by rw [HBL.out]; decide); rw [HGET.out.2.2.1] at h; exact h
  have d5 : w6.cell? ⟨gb, ob + 5, none⟩ = some (.int .u8 2) := by have h := HBA.out.get 5 (by rw [HBL.out]; decide); rw [HGET.out.2.2.2.1] at h; exact h
  have d6 : w6.cell? ⟨gb, ob + 6, none⟩ = some (.int .u8 97) := by have h := HBA.out.get 6 (by rw [HBL.out]; decide); rw [HGET.out.2.2.2.2] at h; exact h
  go_wp2_with fail
  simp only [List.append_eq, List.cons_append, List.nil_append]
  go_wp2_with fail
  go_ret
  exact ⟨rfl, HB7.out⟩
end Go.Proofs.Ytamofhjnpahamaa

/- Are two lists of replies alike? -/
set_option maxRecDepth 4000
namespace Go.Proofs.Ytamofhjnpahamaa
open Go Go.RowKit
set_option maxRecDepth 20000 in
set_option maxHeartbeats 1600000 in
theorem keepreps_any (la lb : List Rp) (A1 A2 : Option Addr) (n1 n2 c1 c2 : Nat) (w : World) (hu : RepsAt w (.slice A1 n1 c1) la) (hv : RepsAt w (.slice A2 n2 c2) lb) (hl : n1 ≤ 1000000) (hl2 : n2 ≤ 1000000) :
    Calls Try.prog 17 #[.slice A1 n1 c1, .slice A2 n2 c2] w fun e w' => e = .returned (.bool (decide (la = lb))) ∧ Below w.heap.size w w' := by
  have hln1 := reps_len hu
  have hln2 := reps_len hv
  obtain ⟨G, hG⟩ : ∃ G, decide (la = lb) = G := ⟨_, rfl⟩
  by_cases hlen : n1 = n2
  case neg =>
    have hG0 : G = false := by rw [← hG, decide_eq_false (fun h => hlen (by rw [← hln1, ← hln2, h]))]
    rw [hG, hG0]
    have hq : (n1 : Int) ≠ (n2 : Int) := by omega
    clear hu hv hG hlen hln1 hln2 hG0
    go_enter Try.func17, Try.ntmps17
    go_wp2_with fail
    go_ret
    exact ⟨rfl, Below.refl _ _⟩
  subst hlen
  obtain ⟨n, hn⟩ : ∃ n, n1 = n := ⟨_, rfl⟩
  subst hn
  have HF := Lib.hid (fun k (hk : k < la.length) => reps_get hu hk)
  have HF2 := Lib.hid (fun k (hk : k < lb.length) => reps_get hv hk)
  have HALL : Hid ((∀ i < n1, la[i]? = lb[i]?) → G = true) := Lib.hid fun h => by
    rw [← hG]
    refine decide_eq_true (List.ext_getElem? fun i => ?_)
    by_cases hi : i < n1
    · exact h i hi
    · rw [List.getElem?_eq_none (by omega), List.getElem?_eq_none (by omega)]
  have HNO : Hid (∀ k : Nat, la[k]? ≠ lb[k]? → G = false) := Lib.hid fun k h => by
    rw [← hG]; exact decide_eq_false (fun e => h (by rw [e]))
  have HL1 := Lib.hid hln1
  have HL2 := Lib.hid hln2
  obtain ⟨n, hn⟩ : ∃ n, n1 = n := ⟨_, rfl⟩
  rw [hG]
  rw [hn] at HALL HL1 HL2 hl ⊢
  clear hu hv hG hl2 hln1 hln2 hn
  go_enter Try.func17, Try.ntmps17
  go_wp2_with fail
  go_loopw [5] (fun i wr => ∃ k : Nat, k ≤ n ∧ i = .int .i64 k ∧ Hid (∀ j < k, la[j]? = lb[j]?) ∧ Below w.heap.size w wr) (fun i _ => n - (intOf i).toNat)
  case atStart => exact ⟨0, by omega, rfl, Lib.hid fun j hj => by omega, Below.refl _ _⟩
  case round =>
    obtain ⟨k, hk, rfl, HE, hB⟩ := hrel
    have HB := Lib.hid hB
    clear hB
    by_cases hlt : k < n
    · obtain ⟨b1, o1, i1, e1, B1, m1, q1, d1, hx1, rfl, hb1, hr1, hs1, hm1, _, _, _⟩ := HF.out k (by rw [HL1.out]; exact hlt)
      obtain ⟨b2, o2, i2, e2, B2, m2, q2, d2, hx2, rfl, hb2, hr2, hs2, hm2, _, _, _⟩ := HF2.out k (by rw [HL2.out]; exact hlt)
      obtain ⟨O1, hO1⟩ : ∃ O, o1 + k * 3 = O := ⟨_, rfl⟩
      obtain ⟨O2, hO2⟩ : ∃ O, o2 + k * 3 = O := ⟨_, rfl⟩
      rw [hO1] at hr1
      rw [hO2] at hr2
      have HX1 := Lib.hid hx1
      have HX2 := Lib.hid hx2
      have HC10 : Hid (w.cell? ⟨b1, O1, none⟩ = some (.int .i64 i1)) := Lib.hid (hr1 0 _ rfl)
      have HC11 : Hid (w.cell? ⟨b1, O1 + 1, none⟩ = some (.int .i64 e1)) := Lib.hid (hr1 1 _ rfl)
      have HC12 : Hid (w.cell? ⟨b1, O1 + 2, none⟩ = some (.slice B1 m1 q1)) := Lib.hid (hr1 2 _ rfl)
      have HC20 : Hid (w.cell? ⟨b2, O2, none⟩ = some (.int .i64 i2)) := Lib.hid (hr2 0 _ rfl)
      have HC21 : Hid (w.cell? ⟨b2, O2 + 1, none⟩ = some (.int .i64 e2)) := Lib.hid (hr2 1 _ rfl)
      have HC22 : Hid (w.cell? ⟨b2, O2 + 2, none⟩ = some (.slice B2 m2 q2)) := Lib.hid (hr2 2 _ rfl)
      have HW1 := Lib.hid hb1
      have HW2 := Lib.hid hb2
      have HS1 := Lib.hid hs1
      have HS2 := Lib.hid hs2
      have HO1 := Lib.hid hO1
      have HO2 := Lib.hid hO2
      have hk0 : (0 : Int) ≤ (k : Int) := by omega
      have hk1 : (k : Int) < (n : Int) := by omega
      clear hx1 hx2 hr1 hr2 hb1 hb2 hs1 hs2 hm1 hm2 hO1 hO2
      go_upto_region 6 with fail
      have hF0 : Wl [fun W => Below w.heap.size w W] 0 (World.drew _) := HB.out.drew
      by_cases hi : i1 = i2
      · by_cases he : e1 = e2
        · by_cases hd : d1 = d2
          · have HQI : Hid ((i1 : Int) = i2) := Lib.hid hi
            have HQE : Hid ((e1 : Int) = e2) := Lib.hid he
            have HQD : Hid (decide (d1 = d2) = true) := Lib.hid (decide_eq_true hd)
            have HXY : Hid (((i1, e1, d1) : Rp) = (i2, e2, d2)) := Lib.hid (by rw [hi, he, hd])
            clear hi he hd
            refine wp_region_phs [is (.slice (some ⟨b1, o1, none⟩) n c1), is (.int .i64 (k : Int)), is (.pointer (some ⟨b1, O1, none⟩)), is (.pointer (some ⟨b1, O1, none⟩)), is (.int .i64 i1), is (.slice (some ⟨b2, o2, none⟩) n c2), is (.int .i64 (k : Int)), is (.pointer (some ⟨b2, O2, none⟩)), is (.pointer (some ⟨b2, O2, none⟩)), is (.int .i64 i2), is (.bool false), is (.bool false), is (.slice (some ⟨b1, o1, none⟩) n c1), is (.int .i64 (k : Int)), is (.pointer (some ⟨b1, O1, none⟩)), is (.pointer (some ⟨b1, O1 + 1, none⟩)), is (.int .i64 e1), is (.slice (some ⟨b2, o2, none⟩) n c2), is (.int .i64 (k : Int)), is (.pointer (some ⟨b2, O2, none⟩)), is (.pointer (some ⟨b2, O2 + 1, none⟩)), is (.int .i64 e2), is (.bool false), is (.bool false), is (.bool false), is (.slice (some ⟨b1, o1, none⟩) n c1), is (.int .i64 (k : Int)), is (.pointer (some ⟨b1, O1, none⟩)), is (.pointer (some ⟨b1, O1 + 2, none⟩)), is (.slice B1 m1 q1), is (.slice (some ⟨b2, o2, none⟩) n c2), is (.int .i64 (k : Int)), is (.pointer (some ⟨b2, O2, none⟩)), is (.pointer (some ⟨b2, O2 + 2, none⟩)), is (.slice B2 m2 q2), is (.bool true), is (.bool false), is (.bool false)] [true, true, true, true, true, true, true, true, true, true, true, true, true, true, true, true, true, true, true, true, true, true, true, true, true, true, true, true, true, true, true, true, true, true, true, true, true, true] [(fun W => Below w.heap.size w W)] [false, false, false, false, false, false, false, false, false, false, false, false, false, false, false, false, false, false, false, false, false, false, false, false, false, false, false, false, false, false, false, false, false, false, false, false, false, false] [some 0, some 0, some 0, some 0, some 0, some 0, some 0, some 0, some 0, some 0, some 0, some 0, some 0, some 0, some 0, some 0, some 0, some 0, some 0, some 0, some 0, some 0, some 0, some 0, some 0, some 0, some 0, some 0, some 0, some 0, some 0, some 0, some 0, some 0, some 0, some 0, some 0, some 0] [some 17, some 18, some 19, some 20, some 21, some 22, some 23, some 24, some 25, some 26, some 27, some 28, some 29, some 30, some 31, some 32, some 33, some 34, some 35, some 36, some 37, some 38, some 39, some 40, some 41, some 42, some 43, some 44, some 45, some 46, some 47, some 48, some 49, some 50, some 51, some 52, some 53, some 54] 38 0 (fun _ => true) rfl rfl (by kernel_rfl) (by kernel_rfl) (by kernel_rfl) (by kernel_rfl) ?_ ?_ ?_ ?_ ?_ ?_
            · repeat first | exact wok_nil | refine wok_cons (by first | exact fun _ _ h k => h.trans (k.mono h.size)) ?_
            · repeat first | exact vok_nil | refine vok_rig (by first | exact fun _ _ _ h => h) ?_ | refine vok_soft (by first | exact fun _ _ _ h _ => h) ?_
            · exact hF0
            · repeat first | exact all_end (by decide) | refine all_cons (by first | exact rfl | exact ⟨rfl, fun _ _ h => Or.inl h⟩ | exact ⟨rfl, fun _ _ h => Or.inr ⟨h, rfl⟩⟩) ?_
            · refine allp_mild 0 rfl rfl rfl (fun a x_ W hout hin hP => ?_) ?_
              · have e0 : a.tmps[0]? = some (.slice (some ⟨b1, o1, none⟩) n c1) := (hout 0 (by kernel_rfl)).trans rfl
                exact does_move rfl e0 ⟨Same.refl _, rfl⟩
              refine allp_mild 0 rfl rfl rfl (fun a x_ W hout hin hP => ?_) ?_
              · have e5 : a.tmps[5]? = some (.int .i64 (k : Int)) := (hout 5 (by kernel_rfl)).trans rfl
                exact does_move rfl e5 ⟨Same.refl _, rfl⟩
              refine allp_mild 0 rfl rfl rfl (fun a x_ W hout hin hP => ?_) ?_
              · have e17 := hin.is 0 17 (by kernel_rfl) (by decide) (by kernel_rfl) (by kernel_rfl) _ rfl
                have e18 := hin.is 1 18 (by kernel_rfl) (by decide) (by kernel_rfl) (by kernel_rfl) _ rfl
                have hO := HO1.out
                clear hin hout
                intro K Q hK
                go_simp
                exact hK _ _ ⟨Same.refl _, rfl⟩
              refine allp_mild 0 rfl rfl rfl (fun a x_ W hout hin hP => ?_) ?_
              · have e19 := hin.is 2 19 (by kernel_rfl) (by decide) (by kernel_rfl) (by kernel_rfl) _ rfl
                clear hin hout
                intro K Q hK
                go_simp
                exact hK _ _ ⟨Same.refl _, rfl⟩
              refine allp_mild 0 rfl rfl rfl (fun a x_ W hout hin hP => ?_) ?_
              · have e20 := hin.is 3 20 (by kernel_rfl) (by decide) (by kernel_rfl) (by kernel_rfl) _ rfl
                have hc : W.cell? ⟨b1, O1, none⟩ = some (.int .i64 i1) := (hP.cell (p := ⟨b1, O1, none⟩) HW1.out).trans (HC10.out)
                clear hP
                clear hin hout
                intro K Q hK
                go_simp
                exact hK _ _ ⟨Same.refl _, rfl⟩
              refine allp_mild 0 rfl rfl rfl (fun a x_ W hout hin hP => ?_) ?_
              · have e1 : a.tmps[1]? = some (.slice (some ⟨b2, o2, none⟩) n c2) := (hout 1 (by kernel_rfl)).trans rfl
                exact does_move rfl e1 ⟨Same.refl _, rfl⟩
              refine allp_mild 0 rfl rfl rfl (fun a x_ W hout hin hP => ?_) ?_
              · have e5 : a.tmps[5]? = some (.int .i64 (k : Int)) := (hout 5 (by kernel_rfl)).trans rfl
                exact does_move rfl e5 ⟨Same.refl _, rfl⟩
              refine allp_mild 0 rfl rfl rfl (fun a x_ W hout hin hP => ?_) ?_
              · have e22 := hin.is 5 22 (by kernel_rfl) (by decide) (by kernel_rfl) (by kernel_rfl) _ rfl
                have e23 := hin.is 6 23 (by kernel_rfl) (by decide) (by kernel_rfl) (by kernel_rfl) _ rfl
                have hO := HO2.out
                clear hin hout
                intro K Q hK
                go_simp
                exact hK _ _ ⟨Same.refl _, rfl⟩
              refine allp_mild 0 rfl rfl rfl (fun a x_ W hout hin hP => ?_) ?_
              · have e24 := hin.is 7 24 (by kernel_rfl) (by decide) (by kernel_rfl) (by kernel_rfl) _ rfl
                clear hin hout
                intro K Q hK
                go_simp
                exact hK _ _ ⟨Same.refl _, rfl⟩
              refine allp_mild 0 rfl rfl rfl (fun a x_ W hout hin hP => ?_) ?_
              · have e25 := hin.is 8 25 (by kernel_rfl) (by decide) (by kernel_rfl) (by kernel_rfl) _ rfl
                have hc : W.cell? ⟨b2, O2, none⟩ = some (.int .i64 i2) := (hP.cell (p := ⟨b2, O2, none⟩) HW2.out).trans (HC20.out)
                clear hP
                clear hin hout
                intro K Q hK
                go_simp
                exact hK _ _ ⟨Same.refl _, rfl⟩
              refine allp_mild 0 rfl rfl rfl (fun a x_ W hout hin hP => ?_) ?_
              · have e21 := hin.is 4 21 (by kernel_rfl) (by decide) (by kernel_rfl) (by kernel_rfl) _ rfl
                have e26 := hin.is 9 26 (by kernel_rfl) (by decide) (by kernel_rfl) (by kernel_rfl) _ rfl
                have hq := HQI.out
                clear hP
                clear hin hout
                intro K Q hK
                go_simp
                exact hK _ _ ⟨Same.refl _, rfl⟩
              refine allp_mild 0 rfl rfl rfl (fun a x_ W hout hin hP => ?_) ?_
              · have e27 := hin.is 10 27 (by kernel_rfl) (by decide) (by kernel_rfl) (by kernel_rfl) _ rfl
                exact does_move rfl e27 ⟨Same.refl _, rfl⟩
              refine allp_mild 0 rfl rfl rfl (fun a x_ W hout hin hP => ?_) ?_
              · have e0 : a.tmps[0]? = some (.slice (some ⟨b1, o1, none⟩) n c1) := (hout 0 (by kernel_rfl)).trans rfl
                exact does_move rfl e0 ⟨Same.refl _, rfl⟩
              refine allp_mild 0 rfl rfl rfl (fun a x_ W hout hin hP => ?_) ?_
              · have e5 : a.tmps[5]? = some (.int .i64 (k : Int)) := (hout 5 (by kernel_rfl)).trans rfl
                exact does_move rfl e5 ⟨Same.refl _, rfl⟩
              refine allp_mild 0 rfl rfl rfl (fun a x_ W hout hin hP => ?_) ?_
              · have e29 := hin.is 12 29 (by kernel_rfl) (by decide) (by kernel_rfl) (by kernel_rfl) _ rfl
                have e30 := hin.is 13 30 (by kernel_rfl) (by decide) (by kernel_rfl) (by kernel_rfl) _ rfl
                have hO := HO1.out
                clear hin hout
                intro K Q hK
                go_simp
                exact hK _ _ ⟨Same.refl _, rfl⟩
              refine allp_mild 0 rfl rfl rfl (fun a x_ W hout hin hP => ?_) ?_
              · have e31 := hin.is 14 31 (by kernel_rfl) (by decide) (by kernel_rfl) (by kernel_rfl) _ rfl
                clear hin hout
                intro K Q hK
                go_simp
                exact hK _ _ ⟨Same.refl _, rfl⟩
              refine allp_mild 0 rfl rfl rfl (fun a x_ W hout hin hP => ?_) ?_
              · have e32 := hin.is 15 32 (by kernel_rfl) (by decide) (by kernel_rfl) (by kernel_rfl) _ rfl
                have hc : W.cell? ⟨b1, O1 + 1, none⟩ = some (.int .i64 e1) := (hP.cell (p := ⟨b1, O1 + 1, none⟩) HW1.out).trans (HC11.out)
                clear hP
                clear hin hout
                intro K Q hK
                go_simp
                exact hK _ _ ⟨Same.refl _, rfl⟩
              refine allp_mild 0 rfl rfl rfl (fun a x_ W hout hin hP => ?_) ?_
              · have e1 : a.tmps[1]? = some (.slice (some ⟨b2, o2, none⟩) n c2) := (hout 1 (by kernel_rfl)).trans rfl
                exact does_move rfl e1 ⟨Same.refl _, rfl⟩
              refine allp_mild 0 rfl rfl rfl (fun a x_ W hout hin hP => ?_) ?_
              · have e5 : a.tmps[5]? = some (.int .i64 (k : Int)) := (hout 5 (by kernel_rfl)).trans rfl
                exact does_move rfl e5 ⟨Same.refl _, rfl⟩
              refine allp_mild 0 rfl rfl rfl (fun a x_ W hout hin hP => ?_) ?_
              · have e34 := hin.is 17 34 (by kernel_rfl) (by decide) (by kernel_rfl) (by kernel_rfl) _ rfl
                have e35 := hin.is 18 35 (by kernel_rfl) (by decide) (by kernel_rfl) (by kernel_rfl) _ rfl
                have hO := HO2.out
                clear hin hout
                intro K Q hK
                go_simp
                exact hK _ _ ⟨Same.refl _, rfl⟩
              refine allp_mild 0 rfl rfl rfl (fun a x_ W hout hin hP => ?_) ?_
              · have e36 := hin.is 19 36 (by kernel_rfl) (by decide) (by kernel_rfl) (by kernel_rfl) _ rfl
                clear hin hout
                intro K Q hK
                go_simp
                exact hK _ _ ⟨Same.refl _, rfl⟩
              refine allp_mild 0 rfl rfl rfl (fun a x_ W hout hin hP => ?_) ?_
              · have e37 := hin.is 20 37 (by kernel_rfl) (by decide) (by kernel_rfl) (by kernel_rfl) _ rfl
                have hc : W.cell? ⟨b2, O2 + 1, none⟩ = some (.int .i64 e2) := (hP.cell (p := ⟨b2, O2 + 1, none⟩) HW2.out).trans (HC21.out)
                clear hP
                clear hin hout
                intro K Q hK
                go_simp
                exact hK _ _ ⟨Same.refl _, rfl⟩
              refine allp_mild 0 rfl rfl rfl (fun a x_ W hout hin hP => ?_) ?_
              · have e33 := hin.is 16 33 (by kernel_rfl) (by decide) (by kernel_rfl) (by kernel_rfl) _ rfl
                have e38 := hin.is 21 38 (by kernel_rfl) (by decide) (by kernel_rfl) (by kernel_rfl) _ rfl
                have hq := HQE.out
                clear hP
                clear hin hout
                intro K Q hK
                go_simp
                exact hK _ _ ⟨Same.refl _, rfl⟩
              refine allp_mild 0 rfl rfl rfl (fun a x_ W hout hin hP => ?_) ?_
              · have e28 := hin.is 11 28 (by kernel_rfl) (by decide) (by kernel_rfl) (by kernel_rfl) _ rfl
                have e39 := hin.is 22 39 (by kernel_rfl) (by decide) (by kernel_rfl) (by kernel_rfl) _ rfl
                exact does_pick rfl e28 ⟨Same.refl _, eval_of_get e39⟩
              refine allp_mild 0 rfl rfl rfl (fun a x_ W hout hin hP => ?_) ?_
              · have e40 := hin.is 23 40 (by kernel_rfl) (by decide) (by kernel_rfl) (by kernel_rfl) _ rfl
                exact does_move rfl e40 ⟨Same.refl _, rfl⟩
              refine allp_mild 0 rfl rfl rfl (fun a x_ W hout hin hP => ?_) ?_
              · have e0 : a.tmps[0]? = some (.slice (some ⟨b1, o1, none⟩) n c1) := (hout 0 (by kernel_rfl)).trans rfl
                exact does_move rfl e0 ⟨Same.refl _, rfl⟩
              refine allp_mild 0 rfl rfl rfl (fun a x_ W hout hin hP => ?_) ?_
              · have e5 : a.tmps[5]? = some (.int .i64 (k : Int)) := (hout 5 (by kernel_rfl)).trans rfl
                exact does_move rfl e5 ⟨Same.refl _, rfl⟩
              refine allp_mild 0 rfl rfl rfl (fun a x_ W hout hin hP => ?_) ?_
              · have e42 := hin.is 25 42 (by kernel_rfl) (by decide) (by kernel_rfl) (by kernel_rfl) _ rfl
                have e43 := hin.is 26 43 (by kernel_rfl) (by decide) (by kernel_rfl) (by kernel_rfl) _ rfl
                have hO := HO1.out
                clear hin hout
                intro K Q hK
                go_simp
                exact hK _ _ ⟨Same.refl _, rfl⟩
              refine allp_mild 0 rfl rfl rfl (fun a x_ W hout hin hP => ?_) ?_
              · have e44 := hin.is 27 44 (by kernel_rfl) (by decide) (by kernel_rfl) (by kernel_rfl) _ rfl
                clear hin hout
                intro K Q hK
                go_simp
                exact hK _ _ ⟨Same.refl _, rfl⟩
              refine allp_mild 0 rfl rfl rfl (fun a x_ W hout hin hP => ?_) ?_
              · have e45 := hin.is 28 45 (by kernel_rfl) (by decide) (by kernel_rfl) (by kernel_rfl) _ rfl
                have hc : W.cell? ⟨b1, O1 + 2, none⟩ = some (.slice B1 m1 q1) := (hP.cell (p := ⟨b1, O1 + 2, none⟩) HW1.out).trans (HC12.out)
                clear hP
                clear hin hout
                intro K Q hK
                go_simp
                exact hK _ _ ⟨Same.refl _, rfl⟩
              refine allp_mild 0 rfl rfl rfl (fun a x_ W hout hin hP => ?_) ?_
              · have e1 : a.tmps[1]? = some (.slice (some ⟨b2, o2, none⟩) n c2) := (hout 1 (by kernel_rfl)).trans rfl
                exact does_move rfl e1 ⟨Same.refl _, rfl⟩
              refine allp_mild 0 rfl rfl rfl (fun a x_ W hout hin hP => ?_) ?_
              · have e5 : a.tmps[5]? = some (.int .i64 (k : Int)) := (hout 5 (by kernel_rfl)).trans rfl
                exact does_move rfl e5 ⟨Same.refl _, rfl⟩
              refine allp_mild 0 rfl rfl rfl (fun a x_ W hout hin hP => ?_) ?_
              · have e47 := hin.is 30 47 (by kernel_rfl) (by decide) (by kernel_rfl) (by kernel_rfl) _ rfl
                have e48 := hin.is 31 48 (by kernel_rfl) (by decide) (by kernel_rfl) (by kernel_rfl) _ rfl
                have hO := HO2.out
                clear hin hout
                intro K Q hK
                go_simp
                exact hK _ _ ⟨Same.refl _, rfl⟩
              refine allp_mild 0 rfl rfl rfl (fun a x_ W hout hin hP => ?_) ?_
              · have e49 := hin.is 32 49 (by kernel_rfl) (by decide) (by kernel_rfl) (by kernel_rfl) _ rfl
                clear hin hout
                intro K Q hK
                go_simp
                exact hK _ _ ⟨Same.refl _, rfl⟩
              refine allp_mild 0 rfl rfl rfl (fun a x_ W hout hin hP => ?_) ?_
              · have e50 := hin.is 33 50 (by kernel_rfl) (by decide) (by kernel_rfl) (by kernel_rfl) _ rfl
                have hc : W.cell? ⟨b2, O2 + 2, none⟩ = some (.slice B2 m2 q2) := (hP.cell (p := ⟨b2, O2 + 2, none⟩) HW2.out).trans (HC22.out)
                clear hP
                clear hin hout
                intro K Q hK
                go_simp
                exact hK _ _ ⟨Same.refl _, rfl⟩
              refine allp_mild 0 rfl rfl rfl (fun a x_ W hout hin hP => ?_) ?_
              · have e46 := hin.is 29 46 (by kernel_rfl) (by decide) (by kernel_rfl) (by kernel_rfl) _ rfl
                have e51 := hin.is 34 51 (by kernel_rfl) (by decide) (by kernel_rfl) (by kernel_rfl) _ rfl
                have C := keepb_any _ _ _ _ W (HS1.out.below hP (Nat.le_refl _)) (HS2.out.below hP (Nat.le_refl _))
                rw [HQD.out] at C
                clear hP
                clear hin hout
                intro K Q hK
                go_simp
                refine C.mono ?_
                rintro e W' ⟨rfl, rfl⟩
                exact hK _ _ ⟨Same.refl _, rfl⟩
              refine allp_mild 0 rfl rfl rfl (fun a x_ W hout hin hP => ?_) ?_
              · have e52 := hin.is 35 52 (by kernel_rfl) (by decide) (by kernel_rfl) (by kernel_rfl) _ rfl
                exact does_not rfl e52 ⟨Same.refl _, rfl⟩
              refine allp_mild 0 rfl rfl rfl (fun a x_ W hout hin hP => ?_) ?_
              · have e41 := hin.is 24 41 (by kernel_rfl) (by decide) (by kernel_rfl) (by kernel_rfl) _ rfl
                have e53 := hin.is 36 53 (by kernel_rfl) (by decide) (by kernel_rfl) (by kernel_rfl) _ rfl
                exact does_pick rfl e41 ⟨Same.refl _, eval_of_get e53⟩
              exact all_end (by decide)
            · intro x_ V hP hV
              have hB9 := hP
              have h37 : x_ 37 = .bool false := hV 37 (by decide) (.inl (by kernel_rfl))
              clear hP hV
              simp only [putL, Act.put, List.setIfInBounds_toArray, List.set_cons_succ, List.set_cons_zero, h37]
              refine wpAnyH_done (by kernel_rfl) ?_ _
              clear h37
              go_wp2_with fail
              refine ⟨⟨k + 1, by omega, by go_num, Lib.hid fun i hi => ?_, hB9⟩, by simp [intOf] <;> omega⟩
              rcases Nat.lt_or_eq_of_le (Nat.le_of_lt_succ hi) with h | rfl
              · exact HE.out i h
              · rw [HX1.out, HX2.out, HXY.out]
          · have HQI : Hid ((i1 : Int) = i2) := Lib.hid hi
            have HQE : Hid ((e1 : Int) = e2) := Lib.hid he
            have HQD : Hid (decide (d1 = d2) = false) := Lib.hid (decide_eq_false hd)
            have HXY : Hid (¬ ((i1, e1, d1) : Rp) = (i2, e2, d2)) := Lib.hid (fun h => hd (by injection h with _ h; injection h))
            clear hi he hd
            refine wp_region_phs [is (.slice (some ⟨b1, o1, none⟩) n c1), is (.int .i64 (k : Int)), is (.pointer (some ⟨b1, O1, none⟩)), is (.pointer (some ⟨b1, O1, none⟩)), is (.int .i64 i1), is (.slice (some ⟨b2, o2, none⟩) n c2), is (.int .i64 (k : Int)), is (.pointer (some ⟨b2, O2, none⟩)), is (.pointer (some ⟨b2, O2, none⟩)), is (.int .i64 i2), is (.bool false), is (.bool false), is (.slice (some ⟨b1, o1, none⟩) n c1), is (.int .i64 (k : Int)), is (.pointer (some ⟨b1, O1, none⟩)), is (.pointer (some ⟨b1, O1 + 1, none⟩)), is (.int .i64 e1), is (.slice (some ⟨b2, o2, none⟩) n c2), is (.int .i64 (k : Int)), is (.pointer (some ⟨b2, O2, none⟩)), is (.pointer (some ⟨b2, O2 + 1, none⟩)), is (.int .i64 e2), is (.bool false), is (.bool false), is (.bool false), is (.slice (some ⟨b1, o1, none⟩) n c1), is (.int .i64 (k : Int)), is (.pointer (some ⟨b1, O1, none⟩)), is (.pointer (some ⟨b1, O1 + 2, none⟩)), is (.slice B1 m1 q1), is (.slice (some ⟨b2, o2, none⟩) n c2), is (.int .i64 (k : Int)), is (.pointer (some ⟨b2, O2, none⟩)), is (.pointer (some ⟨b2, O2 + 2, none⟩)), is (.slice B2 m2 q2), is (.bool false), is (.bool true), is (.bool true)] [true, true, true, true, true, true, true, true, true, true, true, true, true, true, true, true, true, true, true, true, true, true, true, true, true, true, true, true, true, true, true, true, true, true, true, true, true, true] [(fun W => Below w.heap.size w W)] [false, false, false, false, false, false, false, false, false, false, false, false, false, false, false, false, false, false, false, false, false, false, false, false, false, false, false, false, false, false, false, false, false, false, false, false, false, false] [some 0, some 0, some 0, some 0, some 0, some 0, some 0, some 0, some 0, some 0, some 0, some 0, some 0, some 0, some 0, some 0, some 0, some 0, some 0, some 0, some 0, some 0, some 0, some 0, some 0, some 0, some 0, some 0, some 0, some 0, some 0, some 0, some 0, some 0, some 0, some 0, some 0, some 0] [some 17, some 18, some 19, some 20, some 21, some 22, some 23, some 24, some 25, some 26, some 27, some 28, some 29, some 30, some 31, some 32, some 33, some 34, some 35, some 36, some 37, some 38, some 39, some 40, some 41, some 42, some 43, some 44, some 45, some 46, some 47, some 48, some 49, some 50, some 51, some 52, some 53, some 54] 38 0 (fun _ => true) rfl rfl (by kernel_rfl) (by kernel_rfl) (by kernel_rfl) (by kernel_rfl) ?_ ?_ ?_ ?_ ?_ ?_
            · repeat first | exact wok_nil | refine wok_cons (by first | exact fun _ _ h k => h.trans (k.mono h.size)) ?_
            · repeat first | exact vok_nil | refine vok_rig (by first | exact fun _ _ _ h => h) ?_ | refine vok_soft (by first | exact fun _ _ _ h _ => h) ?_
            · exact hF0
            · repeat first | exact all_end (by decide) | refine all_cons (by first | exact rfl | exact ⟨rfl, fun _ _ h => Or.inl h⟩ | exact ⟨rfl, fun _ _ h => Or.inr ⟨h, rfl⟩⟩) ?_
            · refine allp_mild 0 rfl rfl rfl (fun a x_ W hout hin hP => ?_) ?_
              · have e0 : a.tmps[0]? = some (.slice (some ⟨b1, o1, none⟩) n c1) := (hout 0 (by kernel_rfl)).trans rfl
                exact does_move rfl e0 ⟨Same.refl _, rfl⟩
              refine allp_mild 0 rfl rfl rfl (fun a x_ W hout hin hP => ?_) ?_
              · have e5 : a.tmps[5]? = some (.int .i64 (k : Int)) := (hout 5 (by kernel_rfl)).trans rfl
                exact does_move rfl e5 ⟨Same.refl _, rfl⟩
              refine allp_mild 0 rfl rfl rfl (fun a x_ W hout hin hP => ?_) ?_
              · have e17 := hin.is 0 17 (by kernel_rfl) (by decide) (by kernel_rfl) (by kernel_rfl) _ rfl
                have e18 := hin.is 1 18 (by kernel_rfl) (by decide) (by kernel_rfl) (by kernel_rfl) _ rfl
                have hO := HO1.out
                clear hin hout
                intro K Q hK
                go_simp
                exact hK _ _ ⟨Same.refl _, rfl⟩
              refine allp_mild 0 rfl rfl rfl (fun a x_ W hout hin hP => ?_) ?_
              · have e19 := hin.is 2 19 (by kernel_rfl) (by decide) (by kernel_rfl) (by kernel_rfl) _ rfl
                clear hin hout
                intro K Q hK
                go_simp
                exact hK _ _ ⟨Same.refl _, rfl⟩
              refine allp_mild 0 rfl rfl rfl (fun a x_ W hout hin hP => ?_) ?_
              · have e20 := hin.is 3 20 (by kernel_rfl) (by decide) (by kernel_rfl) (by kernel_rfl) _ rfl
                have hc : W.cell? ⟨b1, O1, none⟩ = some (.int .i64 i1) := (hP.cell (p := ⟨b1, O1, none⟩) HW1.out).trans (HC10.out)
                clear hP
                clear hin hout
                intro K Q hK
                go_simp
                exact hK _ _ ⟨Same.refl _, rfl⟩
              refine allp_mild 0 rfl rfl rfl (fun a x_ W hout hin hP => ?_) ?_
              · have e1 : a.tmps[1]? = some (.slice (some ⟨b2, o2, none⟩) n c2) := (hout 1 (by kernel_rfl)).trans rfl
                exact does_move rfl e1 ⟨Same.refl _, rfl⟩
              refine allp_mild 0 rfl rfl rfl (fun a x_ W hout hin hP => ?_) ?_
              · have e5 : a.tmps[5]? = some (.int .i64 (k : Int)) := (hout 5 (by kernel_rfl)).trans rfl
                exact does_move rfl e5 ⟨Same.refl _, rfl⟩
              refine allp_mild 0 rfl rfl rfl (fun a x_ W hout hin hP => ?_) ?_
              · have e22 := hin.is 5 22 (by kernel_rfl) (by decide) (by kernel_rfl) (by kernel_rfl) _ rfl
                have e23 := hin.is 6 23 (by kernel_rfl) (by decide) (by kernel_rfl) (by kernel_rfl) _ rfl
                have hO := HO2.out
                clear hin hout
                intro K Q hK
                go_simp
                exact hK _ _ ⟨Same.refl _, rfl⟩
              refine allp_mild 0 rfl rfl rfl (fun a x_ W hout hin hP => ?_) ?_
              · have e24 := hin.is 7 24 (by kernel_rfl) (by decide) (by kernel_rfl) (by kernel_rfl) _ rfl
                clear hin hout
                intro K Q hK
                go_simp
                exact hK _ _ ⟨Same.refl _, rfl⟩
              refine allp_mild 0 rfl rfl rfl (fun a x_ W hout hin hP => ?_) ?_
              · have e25 := hin.is 8 25 (by kernel_rfl) (by decide) (by kernel_rfl) (by kernel_rfl) _ rfl
                have hc : W.cell? ⟨b2, O2, none⟩ = some (.int .i64 i2) := (hP.cell (p := ⟨b2, O2, none⟩) HW2.out).trans (HC20.out)
                clear hP
                clear hin hout
                intro K Q hK
                go_simp
                exact hK _ _ ⟨Same.refl _, rfl⟩
              refine allp_mild 0 rfl rfl rfl (fun a x_ W hout hin hP => ?_) ?_
              · have e21 := hin.is 4 21 (by kernel_rfl) (by decide) (by kernel_rfl) (by kernel_rfl) _ rfl
                have e26 := hin.is 9 26 (by kernel_rfl) (by decide) (by kernel_rfl) (by kernel_rfl) _ rfl
                have hq := HQI.out
                clear hP
                clear hin hout
                intro K Q hK
                go_simp
                exact hK _ _ ⟨Same.refl _, rfl⟩
              refine allp_mild 0 rfl rfl rfl (fun a x_ W hout hin hP => ?_) ?_
              · have e27 := hin.is 10 27 (by kernel_rfl) (by decide) (by kernel_rfl) (by kernel_rfl) _ rfl
                exact does_move rfl e27 ⟨Same.refl _, rfl⟩
              refine allp_mild 0 rfl rfl rfl (fun a x_ W hout hin hP => ?_) ?_
              · have e0 : a.tmps[0]? = some (.slice (some ⟨b1, o1, none⟩) n c1) := (hout 0 (by kernel_rfl)).trans rfl
                exact does_move rfl e0 ⟨Same.refl _, rfl⟩
              refine allp_mild 0 rfl rfl rfl (fun a x_ W hout hin hP => ?_) ?_
              · have e5 : a.tmps[5]? = some (.int .i64 (k : Int)) := (hout 5 (by kernel_rfl)).trans rfl
                exact does_move rfl e5 ⟨Same.refl _, rfl⟩
              refine allp_mild 0 rfl rfl rfl (fun a x_ W hout hin hP => ?_) ?_
              · have e29 := hin.is 12 29 (by kernel_rfl) (by decide) (by kernel_rfl) (by kernel_rfl) _ rfl
                have e30 := hin.is 13 30 (by kernel_rfl) (by decide) (by kernel_rfl) (by kernel_rfl) _ rfl
                have hO := HO1.out
                clear hin hout
                intro K Q hK
                go_simp
                exact hK _ _ ⟨Same.refl _, rfl⟩
              refine allp_mild 0 rfl rfl rfl (fun a x_ W hout hin hP => ?_) ?_
              · have e31 := hin.is 14 31 (by kernel_rfl) (by decide) (by kernel_rfl) (by kernel_rfl) _ rfl
                clear hin hout
                intro K Q hK
                go_simp
                exact hK _ _ ⟨Same.refl _, rfl⟩
              refine allp_mild 0 rfl rfl rfl (fun a x_ W hout hin hP => ?_) ?_
              · have e32 := hin.is 15 32 (by kernel_rfl) (by decide) (by kernel_rfl) (by kernel_rfl) _ rfl
                have hc : W.cell? ⟨b1, O1 + 1, none⟩ = some (.int .i64 e1) := (hP.cell (p := ⟨b1, O1 + 1, none⟩) HW1.out).trans (HC11.out)
                clear hP
                clear hin hout
                intro K Q hK
                go_simp
                exact hK _ _ ⟨Same.refl _, rfl⟩
              refine allp_mild 0 rfl rfl rfl (fun a x_ W hout hin hP => ?_) ?_
              · have e1 : a.tmps[1]? = some (.slice (some ⟨b2, o2, none⟩) n c2) := (hout 1 (by kernel_rfl)).trans rfl
                exact does_move rfl e1 ⟨Same.refl _, rfl⟩
              refine allp_mild 0 rfl rfl rfl (fun a x_ W hout hin hP => ?_) ?_
              · have e5 : a.tmps[5]? = some (.int .i64 (k : Int)) := (hout 5 (by kernel_rfl)).trans rfl
                exact does_move rfl e5 ⟨Same.refl _, rfl⟩
              refine allp_mild 0 rfl rfl rfl (fun a x_ W hout hin hP => ?_) ?_
              · have e34 := hin.is 17 34 (by kernel_rfl) (by decide) (by kernel_rfl) (by kernel_rfl) _ rfl
                have e35 := hin.is 18 35 (by kernel_rfl) (by decide) (by kernel_rfl) (by kernel_rfl) _ rfl
                have hO := HO2.out
                clear hin hout
                intro K Q hK
                go_simp
                exact hK _ _ ⟨Same.refl _, rfl⟩
              refine allp_mild 0 rfl rfl rfl (fun a x_ W hout hin hP => ?_) ?_
              · have e36 := hin.is 19 36 (by kernel_rfl) (by decide) (by kernel_rfl) (by kernel_rfl) _ rfl
                clear hin hout
                intro K Q hK
                go_simp
                exact hK _ _ ⟨Same.refl _, rfl⟩
              refine allp_mild 0 rfl rfl rfl (fun a x_ W hout hin hP => ?_) ?_
              · have e37 := hin.is 20 37 (by kernel_rfl) (by decide) (by kernel_rfl) (by kernel_rfl) _ rfl
                have hc : W.cell? ⟨b2, O2 + 1, none⟩ = some (.int .i64 e2) := (hP.cell (p := ⟨b2, O2 + 1, none⟩) HW2.out).trans (HC21.out)
                clear hP
                clear hin hout
                intro K Q hK
                go_simp
                exact hK _ _ ⟨Same.refl _, rfl⟩
              refine allp_mild 0 rfl rfl rfl (fun a x_ W hout hin hP => ?_) ?_
              · have e33 := hin.is 16 33 (by kernel_rfl) (by decide) (by kernel_rfl) (by kernel_rfl) _ rfl
                have e38 := hin.is 21 38 (by kernel_rfl) (by decide) (by kernel_rfl) (by kernel_rfl) _ rfl
                have hq := HQE.out
                clear hP
                clear hin hout
                intro K Q hK
                go_simp
                exact hK _ _ ⟨Same.refl _, rfl⟩
              refine allp_mild 0 rfl rfl rfl (fun a x_ W hout hin hP => ?_) ?_
              · have e28 := hin.is 11 28 (by kernel_rfl) (by decide) (by kernel_rfl) (by kernel_rfl) _ rfl
                have e39 := hin.is 22 39 (by kernel_rfl) (by decide) (by kernel_rfl) (by kernel_rfl) _ rfl
                exact does_pick rfl e28 ⟨Same.refl _, eval_of_get e39⟩
              refine allp_mild 0 rfl rfl rfl (fun a x_ W hout hin hP => ?_) ?_
              · have e40 := hin.is 23 40 (by kernel_rfl) (by decide) (by kernel_rfl) (by kernel_rfl) _ rfl
                exact does_move rfl e40 ⟨Same.refl _, rfl⟩
              refine allp_mild 0 rfl rfl rfl (fun a x_ W hout hin hP => ?_) ?_
              · have e0 : a.tmps[0]? = some (.slice (some ⟨b1, o1, none⟩) n c1) := (hout 0 (by kernel_rfl)).trans rfl
                exact does_move rfl e0 ⟨Same.refl _, rfl⟩
              refine allp_mild 0 rfl rfl rfl (fun a x_ W hout hin hP => ?_) ?_
              · have e5 : a.tmps[5]? = some (.int .i64 (k : Int)) := (hout 5 (by kernel_rfl)).trans rfl
                exact does_move rfl e5 ⟨Same.refl _, rfl⟩
              refine allp_mild 0 rfl rfl rfl (fun a x_ W hout hin hP => ?_) ?_
              · have e42 := hin.is 25 42 (by kernel_rfl) (by decide) (by kernel_rfl) (by kernel_rfl) _ rfl
                have e43 := hin.is 26 43 (by kernel_rfl) (by decide) (by kernel_rfl) (by kernel_rfl) _ rfl
                have hO := HO1.out
                clear hin hout
                intro K Q hK
                go_simp
                exact hK _ _ ⟨Same.refl _, rfl⟩
              refine allp_mild 0 rfl rfl rfl (fun a x_ W hout hin hP => ?_) ?_
              · have e44 := hin.is 27 44 (by kernel_rfl) (by decide) (by kernel_rfl) (by kernel_rfl) _ rfl
                clear hin hout
                intro K Q hK
                go_simp
                exact hK _ _ ⟨Same.refl _, rfl⟩
              refine allp_mild 0 rfl rfl rfl (fun a x_ W hout hin hP => ?_) ?_
              · have e45 := hin.is 28 45 (by kernel_rfl) (by decide) (by kernel_rfl) (by kernel_rfl) _ rfl
                have hc : W.cell? ⟨b1, O1 + 2, none⟩ = some (.slice B1 m1 q1) := (hP.cell (p := ⟨b1, O1 + 2, none⟩) HW1.out).trans (HC12.out)
                clear hP
                clear hin hout
                intro K Q hK
                go_simp
                exact hK _ _ ⟨Same.refl _, rfl⟩
              refine allp_mild 0 rfl rfl rfl (fun a x_ W hout hin hP => ?_) ?_
              · have e1 : a.tmps[1]? = some (.slice (some ⟨b2, o2, none⟩) n c2) := (hout 1 (by kernel_rfl)).trans rfl
                exact does_move rfl e1 ⟨Same.refl _, rfl⟩
              refine allp_mild 0 rfl rfl rfl (fun a x_ W hout hin hP => ?_) ?_
              · have e5 : a.tmps[5]? = some (.int .i64 (k : Int)) := (hout 5 (by kernel_rfl)).trans rfl
                exact does_move rfl e5 ⟨Same.refl _, rfl⟩
              refine allp_mild 0 rfl rfl rfl (fun a x_ W hout hin hP => ?_) ?_
              · have e47 := hin.is 30 47 (by kernel_rfl) (by decide) (by kernel_rfl) (by kernel_rfl) _ rfl
                have e48 := hin.is 31 48 (by kernel_rfl) (by decide) (by kernel_rfl) (by kernel_rfl) _ rfl
                have hO := HO2.out
                clear hin hout
                intro K Q hK
                go_simp
                exact hK _ _ ⟨Same.refl _, rfl⟩
              refine allp_mild 0 rfl rfl rfl (fun a x_ W hout hin hP => ?_) ?_
              · have e49 := hin.is 32 49 (by kernel_rfl) (by decide) (by kernel_rfl) (by kernel_rfl) _ rfl
                clear hin hout
                intro K Q hK
                go_simp
                exact hK _ _ ⟨Same.refl _, rfl⟩
              refine allp_mild 0 rfl rfl rfl (fun a x_ W hout hin hP => ?_) ?_
              · have e50 := hin.is 33 50 (by kernel_rfl) (by decide) (by kernel_rfl) (by kernel_rfl) _ rfl
                have hc : W.cell? ⟨b2, O2 + 2, none⟩ = some (.slice B2 m2 q2) := (hP.cell (p := ⟨b2, O2 + 2, none⟩) HW2.out).trans (HC22.out)
                clear hP
                clear hin hout
                intro K Q hK
                go_simp
                exact hK _ _ ⟨Same.refl _, rfl⟩
              refine allp_mild 0 rfl rfl rfl (fun a x_ W hout hin hP => ?_) ?_
              · have e46 := hin.is 29 46 (by kernel_rfl) (by decide) (by kernel_rfl) (by kernel_rfl) _ rfl
                have e51 := hin.is 34 51 (by kernel_rfl) (by decide) (by kernel_rfl) (by kernel_rfl) _ rfl
                have C := keepb_any _ _ _ _ W (HS1.out.below hP (Nat.le_refl _)) (HS2.out.below hP (Nat.le_refl _))
                rw [HQD.out] at C
                clear hP
                clear hin hout
                intro K Q hK
                go_simp
                refine C.mono ?_
                rintro e W' ⟨rfl, rfl⟩
                exact hK _ _ ⟨Same.refl _, rfl⟩
              refine allp_mild 0 rfl rfl rfl (fun a x_ W hout hin hP => ?_) ?_
              · have e52 := hin.is 35 52 (by kernel_rfl) (by decide) (by kernel_rfl) (by kernel_rfl) _ rfl
                exact does_not rfl e52 ⟨Same.refl _, rfl⟩
              refine allp_mild 0 rfl rfl rfl (fun a x_ W hout hin hP => ?_) ?_
              · have e41 := hin.is 24 41 (by kernel_rfl) (by decide) (by kernel_rfl) (by kernel_rfl) _ rfl
                have e53 := hin.is 36 53 (by kernel_rfl) (by decide) (by kernel_rfl) (by kernel_rfl) _ rfl
                exact does_pick rfl e41 ⟨Same.refl _, eval_of_get e53⟩
              exact all_end (by decide)
            · intro x_ V hP hV
              have hB9 := hP
              have h37 : x_ 37 = .bool true := hV 37 (by decide) (.inl (by kernel_rfl))
              clear hP hV
              simp only [putL, Act.put, List.setIfInBounds_toArray, List.set_cons_succ, List.set_cons_zero, h37]
              refine wpAnyH_done (by kernel_rfl) ?_ _
              clear h37
              have hG := HNO.out k (by rw [HX1.out, HX2.out]; exact fun h => HXY.out (Option.some.inj h))
              go_wp2_with fail
              go_ret
              exact ⟨by first | rfl | (rw [hG]; rfl), hB9⟩
        · have HQI : Hid ((i1 : Int) = i2) := Lib.hid hi
          have HQE : Hid ((e1 != e2) = true) := Lib.hid (bne_iff_ne.2 he)
          have HXY : Hid (¬ ((i1, e1, d1) : Rp) = (i2, e2, d2)) := Lib.hid (fun h => he (by injection h with _ h; injection h))
          clear hi he
          refine wp_region_phs [is (.slice (some ⟨b1, o1, none⟩) n c1), is (.int .i64 (k : Int)), is (.pointer (some ⟨b1, O1, none⟩)), is (.pointer (some ⟨b1, O1, none⟩)), is (.int .i64 i1), is (.slice (some ⟨b2, o2, none⟩) n c2), is (.int .i64 (k : Int)), is (.pointer (some ⟨b2, O2, none⟩)), is (.pointer (some ⟨b2, O2, none⟩)), is (.int .i64 i2), is (.bool false), is (.bool false), is (.slice (some ⟨b1, o1, none⟩) n c1), is (.int .i64 (k : Int)), is (.pointer (some ⟨b1, O1, none⟩)), is (.pointer (some ⟨b1, O1 + 1, none⟩)), is (.int .i64 e1), is (.slice (some ⟨b2, o2, none⟩) n c2), is (.int .i64 (k : Int)), is (.pointer (some ⟨b2, O2, none⟩)), is (.pointer (some ⟨b2, O2 + 1, none⟩)), is (.int .i64 e2), is (.bool true), is (.bool true), is (.bool true), is undef, is undef, is undef, is undef, is undef, is undef, is undef, is undef, is undef, is undef, is undef, is undef, is (.bool true)] [true, true, true, true, true, true, true, true, true, true, true, true, true, true, true, true, true, true, true, true, true, true, true, true, true, true, true, true, true, true, true, true, true, true, true, true, true, true] [(fun W => Below w.heap.size w W)] [false, false, false, false, false, false, false, false, false, false, false, false, false, false, false, false, false, false, false, false, false, false, false, false, false, false, false, false, false, false, false, false, false, false, false, false, false, false] [some 0, some 0, some 0, some 0, some 0, some 0, some 0, some 0, some 0, some 0, some 0, some 0, some 0, some 0, some 0, some 0, some 0, some 0, some 0, some 0, some 0, some 0, some 0, some 0, some 0, some 0, some 0, some 0, some 0, some 0, some 0, some 0, some 0, some 0, some 0, some 0, some 0, some 0] [some 17, some 18, some 19, some 20, some 21, some 22, some 23, some 24, some 25, some 26, some 27, some 28, some 29, some 30, some 31, some 32, some 33, some 34, some 35, some 36, some 37, some 38, some 39, some 40, some 41, some 42, some 43, some 44, some 45, some 46, some 47, some 48, some 49, some 50, some 51, some 52, some 53, some 54] 38 0 (fun i => !([25, 26, 27, 28, 29, 30, 31, 32, 33, 34, 35, 36] : List Nat).contains i) rfl rfl (by kernel_rfl) (by kernel_rfl) (by kernel_rfl) (by kernel_rfl) ?_ ?_ ?_ ?_ ?_ ?_
          · repeat first | exact wok_nil | refine wok_cons (by first | exact fun _ _ h k => h.trans (k.mono h.size)) ?_
          · repeat first | exact vok_nil | refine vok_rig (by first | exact fun _ _ _ h => h) ?_ | refine vok_soft (by first | exact fun _ _ _ h _ => h) ?_
          · exact hF0
          · repeat first | exact all_end (by decide) | refine all_cons (by first | exact rfl | exact ⟨rfl, fun _ _ h => Or.inl h⟩ | exact ⟨rfl, fun _ _ h => Or.inr ⟨h, rfl⟩⟩) ?_
          · refine allp_mild 0 rfl rfl rfl (fun a x_ W hout hin hP => ?_) ?_
            · have e0 : a.tmps[0]? = some (.slice (some ⟨b1, o1, none⟩) n c1) := (hout 0 (by kernel_rfl)).trans rfl
              exact does_move rfl e0 ⟨Same.refl _, rfl⟩
            refine allp_mild 0 rfl rfl rfl (fun a x_ W hout hin hP => ?_) ?_
            · have e5 : a.tmps[5]? = some (.int .i64 (k : Int)) := (hout 5 (by kernel_rfl)).trans rfl
              exact does_move rfl e5 ⟨Same.refl _, rfl⟩
            refine allp_mild 0 rfl rfl rfl (fun a x_ W hout hin hP => ?_) ?_
            · have e17 := hin.is 0 17 (by kernel_rfl) (by decide) (by kernel_rfl) (by kernel_rfl) _ rfl
              have e18 := hin.is 1 18 (by kernel_rfl) (by decide) (by kernel_rfl) (by kernel_rfl) _ rfl
              have hO := HO1.out
              clear hin hout
              intro K Q hK
              go_simp
              exact hK _ _ ⟨Same.refl _, rfl⟩
            refine allp_mild 0 rfl rfl rfl (fun a x_ W hout hin hP => ?_) ?_
            · have e19 := hin.is 2 19 (by kernel_rfl) (by decide) (by kernel_rfl) (by kernel_rfl) _ rfl
              clear hin hout
              intro K Q hK
              go_simp
              exact hK _ _ ⟨Same.refl _, rfl⟩
            refine allp_mild 0 rfl rfl rfl (fun a x_ W hout hin hP => ?_) ?_
            · have e20 := hin.is 3 20 (by kernel_rfl) (by decide) (by kernel_rfl) (by kernel_rfl) _ rfl
              have hc : W.cell? ⟨b1, O1, none⟩ = some (.int .i64 i1) := (hP.cell (p := ⟨b1, O1, none⟩) HW1.out).trans (HC10.out)
              clear hP
              clear hin hout
              intro K Q hK
              go_simp
              exact hK _ _ ⟨Same.refl _, rfl⟩
            refine allp_mild 0 rfl rfl rfl (fun a x_ W hout hin hP => ?_) ?_
            · have e1 : a.tmps[1]? = some (.slice (some ⟨b2, o2, none⟩) n c2) := (hout 1 (by kernel_rfl)).trans rfl
              exact does_move rfl e1 ⟨Same.refl _, rfl⟩
            refine allp_mild 0 rfl rfl rfl (fun a x_ W hout hin hP => ?_) ?_
            · have e5 : a.tmps[5]? = some (.int .i64 (k : Int)) := (hout 5 (by kernel_rfl)).trans rfl
              exact does_move rfl e5 ⟨Same.refl _, rfl⟩
            refine allp_mild 0 rfl rfl rfl (fun a x_ W hout hin hP => ?_) ?_
            · have e22 := hin.is 5 22 (by kernel_rfl) (by decide) (by kernel_rfl) (by kernel_rfl) _ rfl
              have e23 := hin.is 6 23 (by kernel_rfl) (by decide) (by kernel_rfl) (by kernel_rfl) _ rfl
              have hO := HO2.out
              clear hin hout
              intro K Q hK
              go_simp
              exact hK _ _ ⟨Same.refl _, rfl⟩
            refine allp_mild 0 rfl rfl rfl (fun a x_ W hout hin hP => ?_) ?_
            · have e24 := hin.is 7 24 (by kernel_rfl) (by decide) (by kernel_rfl) (by kernel_rfl) _ rfl
              clear hin hout
              intro K Q hK
              go_simp
              exact hK _ _ ⟨Same.refl _, rfl⟩
            refine allp_mild 0 rfl rfl rfl (fun a x_ W hout hin hP => ?_) ?_
            · have e25 := hin.is 8 25 (by kernel_rfl) (by decide) (by kernel_rfl) (by kernel_rfl) _ rfl
              have hc : W.cell? ⟨b2, O2, none⟩ = some (.int .i64 i2) := (hP.cell (p := ⟨b2, O2, none⟩) HW2.out).trans (HC20.out)
              clear hP
              clear hin hout
              intro K Q hK
              go_simp
              exact hK _ _ ⟨Same.refl _, rfl⟩
            refine allp_mild 0 rfl rfl rfl (fun a x_ W hout hin hP => ?_) ?_
            · have e21 := hin.is 4 21 (by kernel_rfl) (by decide) (by kernel_rfl) (by kernel_rfl) _ rfl
              have e26 := hin.is 9 26 (by kernel_rfl) (by decide) (by kernel_rfl) (by kernel_rfl) _ rfl
              have hq := HQI.out
              clear hP
              clear hin hout
              intro K Q hK
              go_simp
              exact hK _ _ ⟨Same.refl _, rfl⟩
            refine allp_mild 0 rfl rfl rfl (fun a x_ W hout hin hP => ?_) ?_
            · have e27 := hin.is 10 27 (by kernel_rfl) (by decide) (by kernel_rfl) (by kernel_rfl) _ rfl
              exact does_move rfl e27 ⟨Same.refl _, rfl⟩
            refine allp_mild 0 rfl rfl rfl (fun a x_ W hout hin hP => ?_) ?_
            · have e0 : a.tmps[0]? = some (.slice (some ⟨b1, o1, none⟩) n c1) := (hout 0 (by kernel_rfl)).trans rfl
              exact does_move rfl e0 ⟨Same.refl _, rfl⟩
            refine allp_mild 0 rfl rfl rfl (fun a x_ W hout hin hP => ?_) ?_
            · have e5 : a.tmps[5]? = some (.int .i64 (k : Int)) := (hout 5 (by kernel_rfl)).trans rfl
              exact does_move rfl e5 ⟨Same.refl _, rfl⟩
            refine allp_mild 0 rfl rfl rfl (fun a x_ W hout hin hP => ?_) ?_
            · have e29 := hin.is 12 29 (by kernel_rfl) (by decide) (by kernel_rfl) (by kernel_rfl) _ rfl
              have e30 := hin.is 13 30 (by kernel_rfl) (by decide) (by kernel_rfl) (by kernel_rfl) _ rfl
              have hO := HO1.out
              clear hin hout
              intro K Q hK
              go_simp
              exact hK _ _ ⟨Same.refl _, rfl⟩
            refine allp_mild 0 rfl rfl rfl (fun a x_ W hout hin hP => ?_) ?_
            · have e31 := hin.is 14 31 (by kernel_rfl) (by decide) (by kernel_rfl) (by kernel_rfl) _ rfl
              clear hin hout
              intro K Q hK
              go_simp
              exact hK _ _ ⟨Same.refl _, rfl⟩
            refine allp_mild 0 rfl rfl rfl (fun a x_ W hout hin hP => ?_) ?_
            · have e32 := hin.is 15 32 (by kernel_rfl) (by decide) (by kernel_rfl) (by kernel_rfl) _ rfl
              have hc : W.cell? ⟨b1, O1 + 1, none⟩ = some (.int .i64 e1) := (hP.cell (p := ⟨b1, O1 + 1, none⟩) HW1.out).trans (HC11.out)
              clear hP
              clear hin hout
              intro K Q hK
              go_simp
              exact hK _ _ ⟨Same.refl _, rfl⟩
            refine allp_mild 0 rfl rfl rfl (fun a x_ W hout hin hP => ?_) ?_
            · have e1 : a.tmps[1]? = some (.slice (some ⟨b2, o2, none⟩) n c2) := (hout 1 (by kernel_rfl)).trans rfl
              exact does_move rfl e1 ⟨Same.refl _, rfl⟩
            refine allp_mild 0 rfl rfl rfl (fun a x_ W hout hin hP => ?_) ?_
            · have e5 : a.tmps[5]? = some (.int .i64 (k : Int)) := (hout 5 (by kernel_rfl)).trans rfl
              exact does_move rfl e5 ⟨Same.refl _, rfl⟩
            refine allp_mild 0 rfl rfl rfl (fun a x_ W hout hin hP => ?_) ?_
            · have e34 := hin.is 17 34 (by kernel_rfl) (by decide) (by kernel_rfl) (by kernel_rfl) _ rfl
              have e35 := hin.is 18 35 (by kernel_rfl) (by decide) (by kernel_rfl) (by kernel_rfl) _ rfl
              have hO := HO2.out
              clear hin hout
              intro K Q hK
              go_simp
              exact hK _ _ ⟨Same.refl _, rfl⟩
            refine allp_mild 0 rfl rfl rfl (fun a x_ W hout hin hP => ?_) ?_
            · have e36 := hin.is 19 36 (by kernel_rfl) (by decide) (by kernel_rfl) (by kernel_rfl) _ rfl
              clear hin hout
              intro K Q hK
              go_simp
              exact hK _ _ ⟨Same.refl _, rfl⟩
            refine allp_mild 0 rfl rfl rfl (fun a x_ W hout hin hP => ?_) ?_
            · have e37 := hin.is 20 37 (by kernel_rfl) (by decide) (by kernel_rfl) (by kernel_rfl) _ rfl
              have hc : W.cell? ⟨b2, O2 + 1, none⟩ = some (.int .i64 e2) := (hP.cell (p := ⟨b2, O2 + 1, none⟩) HW2.out).trans (HC21.out)
              clear hP
              clear hin hout
              intro K Q hK
              go_simp
              exact hK _ _ ⟨Same.refl _, rfl⟩
            refine allp_mild 0 rfl rfl rfl (fun a x_ W hout hin hP => ?_) ?_
            · have e33 := hin.is 16 33 (by kernel_rfl) (by decide) (by kernel_rfl) (by kernel_rfl) _ rfl
              have e38 := hin.is 21 38 (by kernel_rfl) (by decide) (by kernel_rfl) (by kernel_rfl) _ rfl
              have hq := HQE.out
              clear hP
              clear hin hout
              intro K Q hK
              go_simp
              exact hK _ _ ⟨Same.refl _, rfl⟩
            refine allp_mild 0 rfl rfl rfl (fun a x_ W hout hin hP => ?_) ?_
            · have e28 := hin.is 11 28 (by kernel_rfl) (by decide) (by kernel_rfl) (by kernel_rfl) _ rfl
              have e39 := hin.is 22 39 (by kernel_rfl) (by decide) (by kernel_rfl) (by kernel_rfl) _ rfl
              exact does_pick rfl e28 ⟨Same.refl _, eval_of_get e39⟩
            refine allp_mild 0 rfl rfl rfl (fun a x_ W hout hin hP => ?_) ?_
            · have e40 := hin.is 23 40 (by kernel_rfl) (by decide) (by kernel_rfl) (by kernel_rfl) _ rfl
              exact does_move rfl e40 ⟨Same.refl _, rfl⟩
            refine allp_skip rfl rfl (fun _ => rfl) ?_
            refine allp_skip rfl rfl (fun _ => rfl) ?_
            refine allp_skip rfl rfl (fun _ => rfl) ?_
            refine allp_skip rfl rfl (fun _ => rfl) ?_
            refine allp_skip rfl rfl (fun _ => rfl) ?_
            refine allp_skip rfl rfl (fun _ => rfl) ?_
            refine allp_skip rfl rfl (fun _ => rfl) ?_
            refine allp_skip rfl rfl (fun _ => rfl) ?_
            refine allp_skip rfl rfl (fun _ => rfl) ?_
            refine allp_skip rfl rfl (fun _ => rfl) ?_
            refine allp_skip rfl rfl (fun _ => rfl) ?_
            refine allp_skip rfl rfl (fun _ => rfl) ?_
            refine allp_mild 0 rfl rfl rfl (fun a x_ W hout hin hP => ?_) ?_
            · have e41 := hin.is 24 41 (by kernel_rfl) (by decide) (by kernel_rfl) (by kernel_rfl) _ rfl
              have e53 := hin.is 36 53 (by kernel_rfl) (by decide) (by kernel_rfl) (by kernel_rfl) _ rfl
              exact does_pick rfl e41 ⟨Same.refl _, rfl⟩
            exact all_end (by decide)
          · intro x_ V hP hV
            have hB9 := hP
            have h37 : x_ 37 = .bool true := hV 37 (by decide) (.inl (by kernel_rfl))
            clear hP hV
            simp only [putL, Act.put, List.setIfInBounds_toArray, List.set_cons_succ, List.set_cons_zero, h37]
            refine wpAnyH_done (by kernel_rfl) ?_ _
            clear h37
            have hG := HNO.out k (by rw [HX1.out, HX2.out]; exact fun h => HXY.out (Option.some.inj h))
            go_wp2_with fail
            go_ret
            exact ⟨by first | rfl | (rw [hG]; rfl), hB9⟩
      · have HQI : Hid ((i1 != i2) = true) := Lib.hid (bne_iff_ne.2 hi)
        have HXY : Hid (¬ ((i1, e1, d1) : Rp) = (i2, e2, d2)) := Lib.hid (fun h => hi (by injection h))
        clear hi
        refine wp_region_phs [is (.slice (some ⟨b1, o1, none⟩) n c1), is (.int .i64 (k : Int)), is (.pointer (some ⟨b1, O1, none⟩)), is (.pointer (some ⟨b1, O1, none⟩)), is (.int .i64 i1), is (.slice (some ⟨b2, o2, none⟩) n c2), is (.int .i64 (k : Int)), is (.pointer (some ⟨b2, O2, none⟩)), is (.pointer (some ⟨b2, O2, none⟩)), is (.int .i64 i2), is (.bool true), is (.bool true), is undef, is undef, is undef, is undef, is undef, is undef, is undef, is undef, is undef, is undef, is undef, is (.bool true), is (.bool true), is undef, is undef, is undef, is undef, is undef, is undef, is undef, is undef, is undef, is undef, is undef, is undef, is (.bool true)] [true, true, true, true, true, true, true, true, true, true, true, true, true, true, true, true, true, true, true, true, true, true, true, true, true, true, true, true, true, true, true, true, true, true, true, true, true, true] [(fun W => Below w.heap.size w W)] [false, false, false, false, false, false, false, false, false, false, false, false, false, false, false, false, false, false, false, false, false, false, false, false, false, false, false, false, false, false, false, false, false, false, false, false, false, false] [some 0, some 0, some 0, some 0, some 0, some 0, some 0, some 0, some 0, some 0, some 0, some 0, some 0, some 0, some 0, some 0, some 0, some 0, some 0, some 0, some 0, some 0, some 0, some 0, some 0, some 0, some 0, some 0, some 0, some 0, some 0, some 0, some 0, some 0, some 0, some 0, some 0, some 0] [some 17, some 18, some 19, some 20, some 21, some 22, some 23, some 24, some 25, some 26, some 27, some 28, some 29, some 30, some 31, some 32, some 33, some 34, some 35, some 36, some 37, some 38, some 39, some 40, some 41, some 42, some 43, some 44, some 45, some 46, some 47, some 48, some 49, some 50, some 51, some 52, some 53, some 54] 38 0 (fun i => !([12, 13, 14, 15, 16, 17, 18, 19, 20, 21, 22, 25, 26, 27, 28, 29, 30, 31, 32, 33, 34, 35, 36] : List Nat).contains i) rfl rfl (by kernel_rfl) (by kernel_rfl) (by kernel_rfl) (by kernel_rfl) ?_ ?_ ?_ ?_ ?_ ?_
        · repeat first | exact wok_nil | refine wok_cons (by first | exact fun _ _ h k => h.trans (k.mono h.size)) ?_
        · repeat first | exact vok_nil | refine vok_rig (by first | exact fun _ _ _ h => h) ?_ | refine vok_soft (by first | exact fun _ _ _ h _ => h) ?_
        · exact hF0
        · repeat first | exact all_end (by decide) | refine all_cons (by first | exact rfl | exact ⟨rfl, fun _ _ h => Or.inl h⟩ | exact ⟨rfl, fun _ _ h => Or.inr ⟨h, rfl⟩⟩) ?_
        · refine allp_mild 0 rfl rfl rfl (fun a x_ W hout hin hP => ?_) ?_
          · have e0 : a.tmps[0]? = some (.slice (some ⟨b1, o1, none⟩) n c1) := (hout 0 (by kernel_rfl)).trans rfl
            exact does_move rfl e0 ⟨Same.refl _, rfl⟩
          refine allp_mild 0 rfl rfl rfl (fun a x_ W hout hin hP => ?_) ?_
          · have e5 : a.tmps[5]? = some (.int .i64 (k : Int)) := (hout 5 (by kernel_rfl)).trans rfl
            exact does_move rfl e5 ⟨Same.refl _, rfl⟩
          refine allp_mild 0 rfl rfl rfl (fun a x_ W hout hin hP => ?_) ?_
          · have e17 := hin.is 0 17 (by kernel_rfl) (by decide) (by kernel_rfl) (by kernel_rfl) _ rfl
            have e18 := hin.is 1 18 (by kernel_rfl) (by decide) (by kernel_rfl) (by kernel_rfl) _ rfl
            have hO := HO1.out
            clear hin hout
            intro K Q hK
            go_simp
            exact hK _ _ ⟨Same.refl _, rfl⟩
          refine allp_mild 0 rfl rfl rfl (fun a x_ W hout hin hP => ?_) ?_
          · have e19 := hin.is 2 19 (by kernel_rfl) (by decide) (by kernel_rfl) (by kernel_rfl) _ rfl
            clear hin hout
            intro K Q hK
            go_simp
            exact hK _ _ ⟨Same.refl _, rfl⟩
          refine allp_mild 0 rfl rfl rfl (fun a x_ W hout hin hP => ?_) ?_
          · have e20 := hin.is 3 20 (by kernel_rfl) (by decide) (by kernel_rfl) (by kernel_rfl) _ rfl
            have hc : W.cell? ⟨b1, O1, none⟩ = some (.int .i64 i1) := (hP.cell (p := ⟨b1, O1, none⟩) HW1.out).trans (HC10.out)
            clear hP
            clear hin hout
            intro K Q hK
            go_simp
            exact hK _ _ ⟨Same.refl _, rfl⟩
          refine allp_mild 0 rfl rfl rfl (fun a x_ W hout hin hP => ?_) ?_
          · have e1 : a.tmps[1]? = some (.slice (some ⟨b2, o2, none⟩) n c2) := (hout 1 (by kernel_rfl)).trans rfl
            exact does_move rfl e1 ⟨Same.refl _, rfl⟩
          refine allp_mild 0 rfl rfl rfl (fun a x_ W hout hin hP => ?_) ?_
          · have e5 : a.tmps[5]? = some (.int .i64 (k : Int)) := (hout 5 (by kernel_rfl)).trans rfl
            exact does_move rfl e5 ⟨Same.refl _, rfl⟩
          refine allp_mild 0 rfl rfl rfl (fun a x_ W hout hin hP => ?_) ?_
          · have e22 := hin.is 5 22 (by kernel_rfl) (by decide) (by kernel_rfl) (by kernel_rfl) _ rfl
            have e23 := hin.is 6 23 (by kernel_rfl) (by decide) (by kernel_rfl) (by kernel_rfl) _ rfl
            have hO := HO2.out
            clear hin hout
            intro K Q hK
            go_simp
            exact hK _ _ ⟨Same.refl _, rfl⟩
          refine allp_mild 0 rfl rfl rfl (fun a x_ W hout hin hP => ?_) ?_
          · have e24 := hin.is 7 24 (by kernel_rfl) (by decide) (by kernel_rfl) (by kernel_rfl) _ rfl
            clear hin hout
            intro K Q hK
            go_simp
            exact hK _ _ ⟨Same.refl _, rfl⟩
          refine allp_mild 0 rfl rfl rfl (fun a x_ W hout hin hP => ?_) ?_
          · have e25 := hin.is 8 25 (by kernel_rfl) (by decide) (by kernel_rfl) (by kernel_rfl) _ rfl
            have hc : W.cell? ⟨b2, O2, none⟩ = some (.int .i64 i2) := (hP.cell (p := ⟨b2, O2, none⟩) HW2.out).trans (HC20.out)
            clear hP
            clear hin hout
            intro K Q hK
            go_simp
            exact hK _ _ ⟨Same.refl _, rfl⟩
          refine allp_mild 0 rfl rfl rfl (fun a x_ W hout hin hP => ?_) ?_
          · have e21 := hin.is 4 21 (by kernel_rfl) (by decide) (by kernel_rfl) (by kernel_rfl) _ rfl
            have e26 := hin.is 9 26 (by kernel_rfl) (by decide) (by kernel_rfl) (by kernel_rfl) _ rfl
            have hq := HQI.out
            clear hP
            clear hin hout
            intro K Q hK
            go_simp
            exact hK _ _ ⟨Same.refl _, rfl⟩
          refine allp_mild 0 rfl rfl rfl (fun a x_ W hout hin hP => ?_) ?_
          · have e27 := hin.is 10 27 (by kernel_rfl) (by decide) (by kernel_rfl) (by kernel_rfl) _ rfl
            exact does_move rfl e27 ⟨Same.refl _, rfl⟩
          refine allp_skip rfl rfl (fun _ => rfl) ?_
          refine allp_skip rfl rfl (fun _ => rfl) ?_
          refine allp_skip rfl rfl (fun _ => rfl) ?_
          refine allp_skip rfl rfl (fun _ => rfl) ?_
          refine allp_skip rfl rfl (fun _ => rfl) ?_
          refine allp_skip rfl rfl (fun _ => rfl) ?_
          refine allp_skip rfl rfl (fun _ => rfl) ?_
          refine allp_skip rfl rfl (fun _ => rfl) ?_
          refine allp_skip rfl rfl (fun _ => rfl) ?_
          refine allp_skip rfl rfl (fun _ => rfl) ?_
          refine allp_skip rfl rfl (fun _ => rfl) ?_
          refine allp_mild 0 rfl rfl rfl (fun a x_ W hout hin hP => ?_) ?_
          · have e28 := hin.is 11 28 (by kernel_rfl) (by decide) (by kernel_rfl) (by kernel_rfl) _ rfl
            have e39 := hin.is 22 39 (by kernel_rfl) (by decide) (by kernel_rfl) (by kernel_rfl) _ rfl
            exact does_pick rfl e28 ⟨Same.refl _, rfl⟩
          refine allp_mild 0 rfl rfl rfl (fun a x_ W hout hin hP => ?_) ?_
          · have e40 := hin.is 23 40 (by kernel_rfl) (by decide) (by kernel_rfl) (by kernel_rfl) _ rfl
            exact does_move rfl e40 ⟨Same.refl _, rfl⟩
          refine allp_skip rfl rfl (fun _ => rfl) ?_
          refine allp_skip rfl rfl (fun _ => rfl) ?_
          refine allp_skip rfl rfl (fun _ => rfl) ?_
          refine allp_skip rfl rfl (fun _ => rfl) ?_
          refine allp_skip rfl rfl (fun _ => rfl) ?_
          refine allp_skip rfl rfl (fun _ => rfl) ?_
          refine allp_skip rfl rfl (fun _ => rfl) ?_
          refine allp_skip rfl rfl (fun _ => rfl) ?_
          refine allp_skip rfl rfl (fun _ => rfl) ?_
          refine allp_skip rfl rfl (fun _ => rfl) ?_
          refine allp_skip rfl rfl (fun _ => rfl) ?_
          refine allp_skip rfl rfl (fun _ => rfl) ?_
          refine allp_mild 0 rfl rfl rfl (fun a x_ W hout hin hP => ?_) ?_
          · have e41 := hin.is 24 41 (by kernel_rfl) (by decide) (by kernel_rfl) (by kernel_rfl) _ rfl
            have e53 := hin.is 36 53 (by kernel_rfl) (by decide) (by kernel_rfl) (by kernel_rfl) _ rfl
            exact does_pick rfl e41 ⟨Same.refl _, rfl⟩
          exact all_end (by decide)
        · intro x_ V hP hV
          have hB9 := hP
          have h37 : x_ 37 = .bool true := hV 37 (by decide) (.inl (by kernel_rfl))
          clear hP hV
          simp only [putL, Act.put, List.setIfInBounds_toArray, List.set_cons_succ, List.set_cons_zero, h37]
          refine wpAnyH_done (by kernel_rfl) ?_ _
          clear h37
          have hG := HNO.out k (by rw [HX1.out, HX2.out]; exact fun h => HXY.out (Option.some.inj h))
          go_wp2_with fail
          go_ret
          exact ⟨by first | rfl | (rw [hG]; rfl), hB9⟩
    · obtain rfl : k = n := by omega
      have hG := HALL.out HE.out
      go_wp2_with fail
      go_ret
      exact ⟨by first | rfl | (rw [hG]; rfl), HB.out⟩
end Go.Proofs.Ytamofhjnpahamaa

/- The document's reply: its bytes. -/
set_option maxRecDepth 4000
namespace Go.Proofs.Ytamofhjnpahamaa
open Go Go.RowKit
set_option maxHeartbeats 800000 in
theorem refrep_bad (i e : Int) (A : Option Addr) (n c : Nat) (w : World) (hc : mayR i e n = false) : Calls Try.prog 11 #[.agg (repCells i e (.slice A n c))] w fun x w' => x = .returned (.tuple #[.slice none 0 0, .int .i64 11]) ∧ Below w.heap.size w w' := by
  have HNO := Lib.hid (mayR_no hc)
  clear hc
  have HS := St.nil w noF
  go_enter Try.func11, Try.ntmps11
  go_upto_region 1 with (first | ((with_reducible refine wpList_plain ?_ ?_); exact rfl; intro KK hKK; refine wp_st_box HS 31 (.tmp 0) rfl _ rfl (repCells i e (.slice A n c)) (rfl) (fun g1 W1 HSx => hKK _ _ ?_); clear hKK KK HS; have HS : St w noF [⟨g1, 31, repCells i e (.slice A n c)⟩] W1 := HSx; clear HSx))
  have c0 : W1.cell? ⟨g1, 0, none⟩ = some (.int .i64 i) := (HS.row 0 rfl).get rfl
  have c1 : W1.cell? ⟨g1, 1, none⟩ = some (.int .i64 e) := (HS.row 0 rfl).get rfl
  have c2 : W1.cell? ⟨g1, 2, none⟩ = some (.slice A n c) := (HS.row 0 rfl).get rfl
  have HB := Lib.hid HS.below
  clear HS
  by_cases h0 : i < 0
  · go_wp2_with fail
    go_ret2
    exact ⟨rfl, HB.out⟩
  by_cases h1 : (2147483648 : Int) ≤ i
  · go_wp2_with fail
    go_ret2
    exact ⟨rfl, HB.out⟩
  by_cases h2 : e < 0
  · go_wp2_with fail
    go_ret2
    exact ⟨rfl, HB.out⟩
  by_cases h3 : 255 < e
  · go_wp2_with fail
    go_ret2
    exact ⟨rfl, HB.out⟩
  by_cases h4 : 255 < n
  · have h4i : (255 : Int) < (n : Int) := by omega
    go_wp2_with fail
    go_ret2
    exact ⟨rfl, HB.out⟩
  exact (HNO.out ⟨by omega, by omega, by omega, by omega, by omega⟩).elim
set_option maxHeartbeats 1600000 in
theorem refrep_good (i e : Int) (A : Option Addr) (n c : Nat) (d : List (BitVec 8)) (hd : d.length = n) (w : World) (hs : Slice w (.slice A n c) d) (hA : A = none → c = 0) (hc : mayR i e n = true) :
    Calls Try.prog 11 #[.agg (repCells i e (.slice A n c))] w fun x w' => ∃ v, x = .returned (.tuple #[v, .int .i64 0]) ∧ w'.ownsRow w.heap.size 5 1 v (repB i e d).length (bytesV (repB i e d)) ∧ Below w.heap.size w w' := by
  obtain ⟨m0, m1, m2, m3, hn⟩ := mayR_of hc
  have h0 : ¬ i < 0 := by omega
  have h1 : ¬ (2147483648 : Int) ≤ i := by omega
  have h2 : ¬ e < 0 := by omega
  have h3 : ¬ 255 < e := by omega
  have h4 : ¬ 255 < n := by omega
  have h4i : ¬ (255 : Int) < (n : Int) := by omega
  have HN := Lib.hid hn
  have HD := Lib.hid hd
  have HSL := Lib.hid hs
  have HA := Lib.hid hA
  clear hc hd hs hA hn m0 m1 m2 m3
  have HS := St.nil w noF
  go_enter Try.func11, Try.ntmps11
  go_upto_region 1 with (first | ((with_reducible refine wpList_plain ?_ ?_); exact rfl; intro KK hKK; refine wp_st_box HS 31 (.tmp 0) rfl _ rfl (repCells i e (.slice A n c)) (rfl) (fun g1 W1 HSx => hKK _ _ ?_); clear hKK KK HS; have HS : St w noF [⟨g1, 31, repCells i e (.slice A n c)⟩] W1 := HSx; clear HSx))
  have HS := HS
  have c0 : W1.cell? ⟨g1, 0, none⟩ = some (.int .i64 i) := (HS.row 0 rfl).get rfl
  have c1 : W1.cell? ⟨g1, 1, none⟩ = some (.int .i64 e) := (HS.row 0 rfl).get rfl
  have c2 : W1.cell? ⟨g1, 2, none⟩ = some (.slice A n c) := (HS.row 0 rfl).get rfl
  have HSW := Lib.hid HS
  clear HS
  go_upto_region 3 with fail
  clear c0 c1 c2 h0 h1 h2 h3 h4 h4i
  obtain ⟨B0, hB0⟩ : ∃ B0, W1.heap.size = B0 := ⟨_, rfl⟩
  have HB0 := Lib.hid hB0
  have hF0 : Wl [fun W => Below B0 W1 W, fun W => Below B0 W1 W] 0 W1.drew := (Below.refl _ _).drew
  clear hB0
  refine wp_region_phs [is (.pointer (some ⟨g1, 0, none⟩)), is (.int .i64 i), is (.int .u32 (wd (wordZ i))), (fun v W => W.ownsRow B0 5 1 v 4 (bytesV (le (wordZ i) 4))), is (.pointer (some ⟨g1, 1, none⟩)), is (.int .i64 e), is (.int .u8 (bd (byteZ e))), is (.pointer (some ⟨g1, 2, none⟩)), is (.slice A n c), is (.int .i64 (n : Int)), is (.int .u8 (bd (byteZ (n : Int)))), (fun v W => W.ownsRow B0 5 1 v 2 (bytesV ([byteZ e, byteZ (n : Int)]))), (fun v W => W.ownsRow B0 5 1 v 6 (bytesV (le (wordZ i) 4 ++ [byteZ e, byteZ (n : Int)]))), (fun v W => W.ownsRow B0 5 1 v 6 (bytesV (le (wordZ i) 4 ++ [byteZ e, byteZ (n : Int)])))] [true, true, true, false, true, true, true, true, true, true, true, false, false, false] [(fun W => Below B0 W1 W), (fun W => Below B0 W1 W)] [false, false, false, false, false, false, false, false, false, false, false, false, true, false] [some 0, some 0, some 0, some 0, some 0, some 0, some 0, some 0, some 0, some 0, some 0, some 0, some 0, some 1] [some 29, some 30, some 31, some 32, some 33, some 34, some 35, some 36, some 37, some 38, some 39, some 40, some 41, some 4] 14 1 (fun _ => true) rfl rfl (by kernel_rfl) (by kernel_rfl) (by kernel_rfl) (by kernel_rfl) ?_ ?_ ?_ ?_ ?_ ?_
  · repeat first | exact wok_nil | refine wok_cons (by first | exact fun _ _ h k => h.trans (k.mono (Nat.le_trans (Nat.le_of_eq HB0.out.symm) h.size))) ?_
  · repeat first | exact vok_nil | refine vok_rig (by first | exact fun _ _ _ h => h) ?_ | refine vok_soft (by first | exact fun _ _ _ h _ => h | exact fun _ _ _ h k => owns_call h k) ?_
  · exact hF0
  · repeat first | exact all_end (by decide) | refine all_cons (by first | exact rfl | exact ⟨rfl, fun _ _ h => Or.inl h⟩ | exact ⟨rfl, fun _ _ h => Or.inr ⟨h, rfl⟩⟩) ?_
  · refine allp_mild 0 rfl rfl rfl (fun a x W hout hin hP => ?_) ?_
    · have e1 : a.tmps[1]? = some (.pointer (some ⟨g1, 0, none⟩)) := (hout 1 (by kernel_rfl)).trans rfl
      clear hin hout
      intro K Q hK
      go_simp
      exact hK _ _ ⟨Same.refl _, rfl⟩
    refine allp_mild 0 rfl rfl rfl (fun a x W hout hin hP => ?_) ?_
    · have e29 := hin.is 0 29 (by kernel_rfl) (by decide) (by kernel_rfl) (by kernel_rfl) _ rfl
      have hc : W.cell? ⟨g1, 0, none⟩ = some (.int .i64 i) := ((HSW.out.same (by rw [HB0.out]; exact hP)).row 0 rfl).get rfl
      clear hP
      clear hin hout
      intro K Q hK
      go_simp
      exact hK _ _ ⟨Same.refl _, rfl⟩
    refine allp_mild 0 rfl rfl rfl (fun a x W hout hin hP => ?_) ?_
    · have e30 := hin.is 1 30 (by kernel_rfl) (by decide) (by kernel_rfl) (by kernel_rfl) _ rfl
      have hw := wordZ_wrap i
      clear hin hout
      intro K Q hK
      go_simp
      exact hK _ _ ⟨Same.refl _, rfl⟩
    refine allp_mild 0 rfl rfl rfl (fun a x W hout hin hP => ?_) ?_
    · have e31 := hin.is 2 31 (by kernel_rfl) (by decide) (by kernel_rfl) (by kernel_rfl) _ rfl
      have hlt := Nat.le_trans (Nat.le_of_eq HB0.out.symm) hP.size
      clear hP
      clear hin hout
      intro K Q hK
      go_simp
      refine (refput_any (wordZ i) 4 W (by decide)).mono ?_
      rintro e W' ⟨u, rfl, hO, hb⟩
      exact hK _ _ ⟨hb, own_base hO hlt⟩
    refine allp_mild 0 rfl rfl rfl (fun a x W hout hin hP => ?_) ?_
    · have e1 : a.tmps[1]? = some (.pointer (some ⟨g1, 0, none⟩)) := (hout 1 (by kernel_rfl)).trans rfl
      clear hin hout
      intro K Q hK
      go_simp
      exact hK _ _ ⟨Same.refl _, rfl⟩
    refine allp_mild 0 rfl rfl rfl (fun a x W hout hin hP => ?_) ?_
    · have e33 := hin.is 4 33 (by kernel_rfl) (by decide) (by kernel_rfl) (by kernel_rfl) _ rfl
      have hc : W.cell? ⟨g1, 1, none⟩ = some (.int .i64 e) := ((HSW.out.same (by rw [HB0.out]; exact hP)).row 0 rfl).get rfl
      clear hP
      clear hin hout
      intro K Q hK
      go_simp
      exact hK _ _ ⟨Same.refl _, rfl⟩
    refine allp_mild 0 rfl rfl rfl (fun a x W hout hin hP => ?_) ?_
    · have e34 := hin.is 5 34 (by kernel_rfl) (by decide) (by kernel_rfl) (by kernel_rfl) _ rfl
      have hw : IntKind.u8.wrap e = bd (byteZ e) := wrap_u8_bd e
      clear hin hout
      intro K Q hK
      go_simp
      exact hK _ _ ⟨Same.refl _, rfl⟩
    refine allp_mild 0 rfl rfl rfl (fun a x W hout hin hP => ?_) ?_
    · have e1 : a.tmps[1]? = some (.pointer (some ⟨g1, 0, none⟩)) := (hout 1 (by kernel_rfl)).trans rfl
      clear hin hout
      intro K Q hK
      go_simp
      exact hK _ _ ⟨Same.refl _, rfl⟩
    refine allp_mild 0 rfl rfl rfl (fun a x W hout hin hP => ?_) ?_
    · have e36 := hin.is 7 36 (by kernel_rfl) (by decide) (by kernel_rfl) (by kernel_rfl) _ rfl
      have hc : W.cell? ⟨g1, 2, none⟩ = some (.slice A n c) := ((HSW.out.same (by rw [HB0.out]; exact hP)).row 0 rfl).get rfl
      clear hP
      clear hin hout
      intro K Q hK
      go_simp
      exact hK _ _ ⟨Same.refl _, rfl⟩
    refine allp_mild 0 rfl rfl rfl (fun a x W hout hin hP => ?_) ?_
    · have e37 := hin.is 8 37 (by kernel_rfl) (by decide) (by kernel_rfl) (by kernel_rfl) _ rfl
      clear hin hout
      intro K Q hK
      go_simp
      exact hK _ _ ⟨Same.refl _, rfl⟩
    refine allp_mild 0 rfl rfl rfl (fun a x W hout hin hP => ?_) ?_
    · have e38 := hin.is 9 38 (by kernel_rfl) (by decide) (by kernel_rfl) (by kernel_rfl) _ rfl
      have hw : IntKind.u8.wrap (n : Int) = bd (byteZ (n : Int)) := wrap_u8_bd _
      clear hin hout
      intro K Q hK
      go_simp
      exact hK _ _ ⟨Same.refl _, rfl⟩
    refine allp_mild 0 rfl rfl rfl (fun a x W hout hin hP => ?_) ?_
    · have e35 := hin.is 6 35 (by kernel_rfl) (by decide) (by kernel_rfl) (by kernel_rfl) _ rfl
      have e39 := hin.is 10 39 (by kernel_rfl) (by decide) (by kernel_rfl) (by kernel_rfl) _ rfl
      have hlt := Nat.le_trans (Nat.le_of_eq HB0.out.symm) hP.size
      have ho := own_base (own_litq W [byteZ e, byteZ (n : Int)] (by unfold maxLen; simp)) hlt
      clear hP
      clear hin hout
      intro K Q hK
      go_simp
      exact hK _ _ ⟨Same.alloc _ _, ho⟩
    refine allp_wild 0 rfl rfl rfl (fun a x W hout hin hP => ?_) ?_
    · obtain ⟨v32, e32, hv32⟩ := hin.get 3 32 (by kernel_rfl) (by decide) (by kernel_rfl) (.inr ⟨rfl, by kernel_rfl⟩)
      obtain ⟨v40, e40, hv40⟩ := hin.get 11 40 (by kernel_rfl) (by decide) (by kernel_rfl) (.inr ⟨rfl, by kernel_rfl⟩)
      have hO8 := hv32
      have hlt := Nat.le_trans (Nat.le_of_eq HB0.out.symm) hP.size
      obtain ⟨A4, c4, rfl, hS5, hA4, _⟩ := own_item (q := [byteZ e, byteZ (n : Int)]) hv40 (by unfold maxLen; simp)
      clear hin hout
      intro K Q hK
      refine wp_append_slice (.tmp 32) (.tmp 40) rfl B0 _ 4 _ (eval_of_get e32) hO8 A4 2 c4 [byteZ e, byteZ (n : Int)] (eval_of_get e40) hS5 hA4 (by decide) hlt ?_
      intro v' W' hO' hb'
      rw [← bytesV_apps] at hO'
      exact hK _ _ ⟨hP.trans hb', hO'⟩
    refine allp_mild 1 rfl rfl rfl (fun a x W hout hin hP => ?_) ?_
    · obtain ⟨v41, e41, hv41⟩ := hin.get 12 41 (by kernel_rfl) (by decide) (by kernel_rfl) (.inr ⟨rfl, by kernel_rfl⟩)
      exact does_assign rfl e41 ⟨Same.refl _, hv41⟩
    exact all_end (by decide)
  · intro x W hP hV
    have hO := hV 13 (by decide) (.inr (by kernel_rfl))
    obtain ⟨v4, hv4⟩ : ∃ v4, x 13 = v4 := ⟨_, rfl⟩
    have HO4 : Hid (W.ownsRow B0 5 1 v4 6 (bytesV (le (wordZ i) 4 ++ [byteZ e, byteZ (n : Int)]))) := Lib.hid (by rw [← hv4]; exact hO)
    have HB4 : Hid (Below B0 W1 W) := Lib.hid hP
    clear hV hP hO
    simp only [putL, Act.put, List.setIfInBounds_toArray, List.set_cons_succ, List.set_cons_zero, hv4]
    simp only [Nat.zero_add, Nat.reduceAdd]
    refine wpAnyH_done (by kernel_rfl) ?_ _
    clear hv4
    have HS4 := HSW.out.same (by rw [HB0.out]; exact HB4.out)
    have c2 : W.cell? ⟨g1, 2, none⟩ = some (.slice A n c) := (HS4.row 0 rfl).get rfl
    have hsl := HSL.out.below HS4.below (Nat.le_refl _)
    have hn9 := HN.out
    clear HS4
    go_wp2_with (at_builtin; refine wpList_append_slice rfl (.tmp 42) (.tmp 44) rfl B0 _ 6 _ rfl HO4.out A n c d rfl hsl HA.out (by omega) (Nat.le_trans (Nat.le_of_eq HB0.out.symm) HB4.out.size) ?_; intro v5 w5 own5 hb5; rw [← bytesV_apps] at own5; have HO5 := Lib.hid own5; have HB5 := Lib.hid (HB4.out.trans hb5); clear own5 hb5 HO4 HB4 c2 hsl)
    have HEQ : le (wordZ i) 4 ++ [byteZ e, byteZ (n : Int)] ++ d = repH i e d := by unfold repH; rw [HD.out, four_le]
    have hLH : (repH i e d).length = 6 + n := by rw [length_repH, HD.out]
    have own5 := HO5.out
    rw [HEQ, ← hLH] at own5
    have CS := refsealed_any (repH i e d) v5 w5 (own_item own5 (by rw [hLH]; unfold maxLen; omega)) (by rw [hLH]; omega)
    clear HEQ hLH own5 HO5 hn9
    refine CS.mono ?_
    rintro x w6 ⟨v6, rfl, h6, b6⟩
    clear CS
    have HO6 := Lib.hid h6
    have HB6 := Lib.hid b6
    clear h6 b6
    go_wp2_with fail
    go_ret2
    have hz : w.heap.size ≤ B0 := by rw [← HB0.out]; exact HSW.out.below.size
    have hz5 : B0 ≤ w5.heap.size := Nat.le_trans (Nat.le_of_eq HB0.out.symm) HB5.out.size
    exact ⟨_, rfl, own_base HO6.out (Nat.le_trans hz hz5), HSW.out.below.trans ((HB5.out.trans (HB6.out.mono hz5)).mono hz)⟩
end Go.Proofs.Ytamofhjnpahamaa

/- The law's own: copies of replies; the document's Join. -/
set_option maxRecDepth 4000
namespace Go.Proofs.Ytamofhjnpahamaa
open Go Go.RowKit
theorem info_rep : (Try.prog.info? 31).map (fun i => (i.zero, i.size, i.bytes)) = some (some (.agg (repCells 0 0 (.slice none 0 0))), 3, 40) := by kernel_rfl
def OwnR (W : World) (base : Nat) (cs : List Value) (x : Rp) : Prop := ∃ A c, cs = [.int .i64 x.1, .int .i64 x.2.1, .slice A x.2.2.length c] ∧ W.ownsRow base 5 1 (.slice A x.2.2.length c) x.2.2.length (bytesV x.2.2) ∧ x.2.2.length ≤ maxLen ∧ -9223372036854775808 ≤ x.1 ∧ x.1 < 9223372036854775808 ∧ -9223372036854775808 ≤ x.2.1 ∧ x.2.1 < 9223372036854775808
def OwnsR (w wr : World) (v : Value) (l : List Rp) : Prop :=
  ∃ vs : List (List Value), wr.ownsRow w.heap.size 31 3 v l.length vs.flatten ∧ vs.length = l.length ∧ (∀ c ∈ vs, c.length = 3) ∧ Below w.heap.size w wr ∧ ∀ (j : Nat) (x : Rp), l[j]? = some x → ∃ cs, vs[j]? = some cs ∧ OwnR wr w.heap.size cs x
theorem OwnsR.reps {w wr : World} {A : Option Addr} {n c : Nat} {l : List Rp} (h : OwnsR w wr (.slice A n c) l) (hn : l.length = n) (hl : n ≤ maxLen) : RepsAt wr (.slice A n c) l := by
  subst hn
  obtain ⟨vs, h1, hvl, hv3, _, h3⟩ := h
  rcases h1.2 with ⟨e0, h0⟩ | ⟨g, cap, cur, e0, _, hrow, hcap, _, hsz, htk⟩
  · injection e0 with e1 e2 e3
    have hl0 : l = [] := List.eq_nil_of_length_eq_zero h0
    subst hl0
    exact ⟨A, c, rfl, Nat.zero_le _, fun _ => e3, hl, fun h => absurd rfl h⟩
  · injection e0 with e1 e2 e3
    subst e1 e3
    refine ⟨_, _, rfl, hcap, fun h => (by cases h), hl, fun _ => ⟨g, 0, rfl, (h1.lt g rfl).2, fun k x hx => ?_⟩⟩
    obtain ⟨cs, hcs, A2, c2, rfl, ho, hm, b1, b2, b3, b4⟩ := h3 k x hx
    refine ⟨_, rfl, fun j v hv => ?_, rep_rd (rep_at (own_slice ho) (fun h => own_nil ho _ _ (by rw [h])) hm b1 b2 b3 b4)⟩
    have hk : k < l.length := (List.getElem?_eq_some_iff.1 hx).1
    have hj : j < 3 := (List.getElem?_eq_some_iff.1 hv).1
    rw [Nat.zero_add, h1.cellAt (k * 3 + j) (by omega), flat_get (sz := 3) vs hv3 k j _ hcs hj]
    exact hv
theorem OwnR.keep {W W' : World} {base : Nat} {cs : List Value} {x : Rp} (h : OwnR W base cs x) (k : ∀ A c, W.ownsRow base 5 1 (.slice A x.2.2.length c) x.2.2.length (bytesV x.2.2) → W'.ownsRow base 5 1 (.slice A x.2.2.length c) x.2.2.length (bytesV x.2.2)) : OwnR W' base cs x := by
  obtain ⟨A, c, h1, h2, h3⟩ := h
  exact ⟨A, c, h1, k A c h2, h3⟩
/- one more -/
theorem OwnsR.step {w wr w3 w6 : World} {v v2 : Value} {l : List Rp} {k : Nat} {x : Rp} {cs : List Value} {vs : List (List Value)} (hx : l[k]? = some x)
    (h1 : wr.ownsRow w.heap.size 31 3 v k vs.flatten) (hvl : vs.length = k) (hv3 : ∀ c ∈ vs, c.length = 3) (hb : Below w.heap.size w wr) (h3 : ∀ (j : Nat) (x : Rp), (l.take k)[j]? = some x → ∃ cs, vs[j]? = some cs ∧ OwnR wr w.heap.size cs x)
    (hb3 : Below wr.heap.size wr w3) (hcs : OwnR w3 w.heap.size cs x) (own2 : w6.ownsRow w.heap.size 31 3 v2 (k + 1) (vs.flatten ++ cs)) (hg : w3.grownBy w6 v.ownBlock) : OwnsR w w6 v2 (l.take (k + 1)) := by
  have hk : k < l.length := (List.getElem?_eq_some_iff.1 hx).1
  have o3 := owns_call h1 hb3
  have hcs3 : cs.length = 3 := by obtain ⟨A, c, rfl, _⟩ := hcs; rfl
  have keep : ∀ A n c q, w3.ownsRow w.heap.size 5 1 (.slice A n c) n (bytesV q) → w6.ownsRow w.heap.size 5 1 (.slice A n c) n (bytesV q) := fun A n c q ho => by
    refine ho.kept hg ?_
    cases hu : (Value.slice A n c).ownBlock with
    | none => exact .inl rfl
    | some g => exact .inr fun e => own_apart2 o3 ho (by decide) g e.symm hu
  refine ⟨vs ++ [cs], by rw [List.length_take, Nat.min_eq_left (by omega)]; simpa using own2, by rw [List.length_append, hvl, List.length_take, Nat.min_eq_left (by omega)]; rfl, fun c hc => ?_, ?_, fun j y hy => ?_⟩
  · rcases List.mem_append.1 hc with h | h
    · exact hv3 c h
    · rw [List.mem_singleton.1 h]; exact hcs3
  · exact (hb.trans (hb3.mono hb.size)).trans (below_of_grown hg (fun g e => (o3.lt g e).1) (Nat.le_trans hb.size hb3.size))
  · have hj := (List.getElem?_eq_some_iff.1 hy).1
    rw [List.length_take] at hj
    by_cases hjk : j < k
    · obtain ⟨c, hc, ho⟩ := h3 j y (by rw [List.getElem?_take, if_pos (by omega)] at hy; rw [List.getElem?_take, if_pos hjk]; exact hy)
      refine ⟨c, by rw [List.getElem?_append_left (by omega)]; exact hc, ho.keep fun A n h => keep _ _ _ _ (owns_call h hb3)⟩
    · obtain rfl : j = k := by omega
      rw [List.getElem?_take, if_pos (by omega), hx] at hy
      cases hy
      exact ⟨cs, by rw [List.getElem?_append_right (by omega), hvl, Nat.sub_self]; rfl, hcs.keep fun A n h => keep _ _ _ _ h⟩
theorem chg_below {w w' : World} {g B : Nat} (h : Chg (fun k => k = g) w w') (hg : B ≤ g) (hB : B ≤ w.heap.size) : Below B w w' :=
  ⟨h.os, h.tape, h.output, h.size, fun k hk => h.block k (by omega) (fun e => by omega)⟩
set_option maxHeartbeats 1600000 in
theorem ownrep_any (A : Option Addr) (n c : Nat) (l : List Rp) (w : World) (h : RepsAt w (.slice A n c) l) (hn : n ≤ 1000) (h6 : ∀ x ∈ l, x.2.2.length ≤ 600) :
    Calls Try.prog 9 #[.slice A n c] w fun e w' => ∃ v, e = .returned v ∧ OwnsR w w' v l := by
  obtain ⟨i1, hi1, hz10, hz11, hz12⟩ := info_parts info_rep
  have hln := reps_len h
  have HF := Lib.hid (fun k (hk : k < l.length) => reps_get h hk)
  have HL := Lib.hid hln
  have H6 := Lib.hid h6
  clear h hln h6
  go_enter Try.func9, Try.ntmps9
  go_wp2_with fail
  go_loopw [3, 4] (fun v i wr => ∃ k : Nat, k ≤ n ∧ i = .int .i64 k ∧ OwnsR w wr v (l.take k)) (fun _ i _ => n - (intOf i).toNat)
  case atStart => exact ⟨0, by omega, rfl, [], by simpa using World.ownsRow_nil _ _ _ _, rfl, fun c hc => by simp at hc, Below.refl _ _, fun j q h => by simp at h⟩
  case round =>
    obtain ⟨k, hk, rfl, hO⟩ := hrel
    by_cases hlt : k < n
    · obtain ⟨b, o, i, e, B, m, c', d, hx, rfl, hbw, hr, hs, hm, hA, _, a1, a2, a3, a4⟩ := HF.out k (by rw [HL.out]; exact hlt)
      obtain ⟨O, hO'⟩ : ∃ O, o + k * 3 = O := ⟨_, rfl⟩
      rw [hO'] at hr
      obtain ⟨vs, h1, hvl, hv3, hb, h3⟩ := hO
      rw [List.length_take, Nat.min_eq_left (by rw [HL.out]; exact hk)] at h1 hvl
      have hm6 : m ≤ 600 := by rw [← hm]; exact H6.out _ (List.mem_of_getElem? hx)
      have HX := Lib.hid hx
      have HMD := Lib.hid hm
      have H1 := Lib.hid h1
      have HV := Lib.hid (And.intro hvl hv3)
      have HB := Lib.hid hb
      have H3 := Lib.hid h3
      have HSL := Lib.hid (hs.below hb (Nat.le_refl _))
      have HA := Lib.hid hA
      have HI4 := Lib.hid (And.intro a1 (And.intro a2 (And.intro a3 a4)))
      have HR : Hid (wr.rangeAt b O [.int .i64 i, .int .i64 e, .slice B m c']) := Lib.hid fun j v hv => (hb.cell (p := ⟨b, O + j, none⟩) hbw).trans (hr j v hv)
      have hk0 : (0 : Int) ≤ (k : Int) := by omega
      have hk1 : (k : Int) < (n : Int) := by omega
      have hvb : ∀ g, u3.ownBlock = some g → g < wr.heap.size := fun g hg => (h1.lt g hg).2
      have HVB := Lib.hid hvb
      clear hx hr hs hm hA a1 a2 a3 a4 h1 hvl hv3 hb h3 hbw hvb
      have HS := St.nil wr noF
      go_upto_region 6 with (first | ((with_reducible refine wpList_plain ?_ ?_); exact rfl; intro KK hKK; refine wp_load_mid 31 (.tmp 14) rfl b O rfl [.int .i64 i, .int .i64 e, .slice B m c'] _ HR.out Try.underlying31 rfl (by exact size_rep) (hKK _ _ ?_); clear hKK KK) | ((with_reducible refine wpList_plain ?_ ?_); exact rfl; intro KK hKK; refine wp_st_alloc HS 31 (repCells 0 0 (.slice none 0 0)) rfl (.agg (repCells 0 0 (.slice none 0 0))) (by kernel_rfl) (rfl) (fun g5 W1 HSx => hKK _ _ ?_); clear hKK KK HS; have HS : St wr noF [⟨g5, 31, repCells 0 0 (.slice none 0 0)⟩] W1 := HSx; clear HSx) | ((with_reducible refine wpList_plain ?_ ?_); exact rfl; intro KK hKK; refine wp_st_store HS 0 0 31 (.tmp 5) (.tmp 15) rfl rfl rfl (.agg (repCells i e (.slice B m c'))) rfl (by exact size_rep) (Nat.le_refl _) (rep_one ..) (repCells i e (.slice B m c')) (by exact spl_agg _ _ _ rfl rfl) (fun W2 HSx => hKK _ _ ?_); clear hKK KK HS; have HS : St wr noF [⟨g5, 31, repCells i e (.slice B m c')⟩] W2 := HSx; clear HSx))
      clear hO' hk0 hk1
      have HW := Lib.hid HS.below
      have c2 : (W2.alloc (.cells #[] 5)).cell? ⟨g5, 2, none⟩ = some (.slice B m c') := ((HS.row 0 rfl).alloc _).get rfl
      have hs2 := HSL.out.below (HW.out.alloc HW.out.size (.cells #[] 5)) (Nat.le_refl _)
      have HG5 : Hid (wr.heap.size ≤ g5) := Lib.hid ((HS.own 0 _ rfl).resolve_left (fun h => h))
      have hAA := HA.out
      have HRW : Hid (Row W2 g5 31 (repCells i e (.slice B m c'))) := Lib.hid (HS.row 0 rfl)
      clear HS
      have hm9 : m ≤ 600 := hm6
      go_upto_region 7 with (first | (at_builtin; refine wpList_append_slice rfl (.tmp 16) (.tmp 18) rfl W2.heap.size _ 0 [] rfl (own_empty W2) B m c' d rfl hs2 hAA (by omega) (by simp) ?_; intro v1 w4 own1 hb4; simp only [Nat.zero_add, List.nil_append] at own1; obtain ⟨A1, c1, rfl, _⟩ := own_slice_form own1; have OWN1 := Lib.hid own1; have HB4 := Lib.hid (((Below.refl W2.heap.size W2).alloc (Nat.le_refl _) (.cells #[] 5)).trans hb4); have HRW4 : Hid (Row w4 g5 31 (repCells i e (.slice B m c'))) := Lib.hid (HRW.out.call HB4.out); have HT : St w4 (fun k => k = g5) [⟨g5, 31, repCells i e (.slice B m c')⟩] w4 := ⟨Chg.refl _ _, (fun j r hj => by cases j with | zero => (cases hj; exact HRW4.out) | succ j => cases hj), (fun j k r q hjk hj hk => by cases j with | zero => (cases k with | zero => exact absurd rfl hjk | succ k => cases hk) | succ j => cases hj), (fun j r hj => by cases j with | zero => (cases hj; exact .inl rfl) | succ j => cases hj)⟩; clear own1 hb4 hs2 c2) | ((with_reducible refine wpList_plain ?_ ?_); exact rfl; intro KK hKK; refine wp_st_put HT 0 2 23 (.tmp 20) (.tmp 19) rfl rfl rfl (.slice A1 m c1) rfl (by kernel_rfl) rfl rfl (by show 2 < 3; decide) (repCells i e (.slice A1 m c1)) (by exact rfl) (fun W11 HSx => hKK _ _ ?_); clear hKK KK HT; have HT : St w4 (fun k => k = g5) [⟨g5, 31, repCells i e (.slice A1 m c1)⟩] W11 := HSx; clear HSx))
      have HB5 := Lib.hid ((HW.out.trans (HB4.out.mono HW.out.size)).trans (chg_below HT.chg HG5.out (Nat.le_trans HW.out.size HB4.out.size)))
      have hown1 := own_chg OWN1.out HT.chg (fun g hg he => own_apart OWN1.out HRW4.out (by decide) g hg he)
      have hout := own_chg (owns_call H1.out (HW.out.trans (HB4.out.mono HW.out.size))) HT.chg (fun g hg he => by have := HVB.out g hg; have := HG5.out; omega)
      have own5 := hout.alloc (.cells #[.int .i64 i, .int .i64 e, .slice A1 m c1] 31)
      have own1 := hown1.alloc (.cells #[.int .i64 i, .int .i64 e, .slice A1 m c1] 31)
      have HOR : Hid (OwnR (W11.alloc (.cells #[.int .i64 i, .int .i64 e, .slice A1 m c1] 31)) w.heap.size [.int .i64 i, .int .i64 e, .slice A1 m c1] (i, e, d)) := Lib.hid (by
        have hmd := HMD.out
        subst hmd
        exact ⟨A1, c1, rfl, own_base own1 (Nat.le_trans HB.out.size HW.out.size), by show d.length ≤ maxLen; unfold maxLen; omega, HI4.out.1, HI4.out.2.1, HI4.out.2.2.1, HI4.out.2.2.2⟩)
      have HB6 := Lib.hid (HB5.out.alloc HB5.out.size (.cells #[.int .i64 i, .int .i64 e, .slice A1 m c1] 31))
      have hbase : w.heap.size ≤ (W11.alloc (.cells #[.int .i64 i, .int .i64 e, .slice A1 m c1] 31)).heap.size := Nat.le_trans HB.out.size HB6.out.size
      have hnews : ∀ j u, ([.int .i64 i, .int .i64 e, .slice A1 m c1] : List Value)[j]? = some u → (W11.alloc (.cells #[.int .i64 i, .int .i64 e, .slice A1 m c1] 31)).cell? ((⟨W11.heap.size, 0, none⟩ : Addr).add j) = some u := fun j u hj => by
        rw [Addr.add_mid, Nat.zero_add]
        exact (Row.fresh W11 31 #[.int .i64 i, .int .i64 e, .slice A1 m c1]).get (by rw [← Array.getElem?_toList]; exact hj)
      have HR5 : Hid (Row W11 g5 31 (repCells i e (.slice A1 m c1))) := Lib.hid (HT.row 0 rfl)
      clear HT hout hown1 own1
      go_wp2_with (first | ((with_reducible refine wpList_plain ?_ ?_); exact rfl; intro KK hKK; refine wp_load_mid 31 (.tmp 5) rfl g5 0 rfl [.int .i64 i, .int .i64 e, .slice A1 m c1] _ (HR5.out.slab 0 _ rfl) Try.underlying31 rfl (by exact size_rep) (hKK _ _ ?_); clear hKK KK) | (at_builtin; refine wpList_append_own_wide _ rfl (.tmp 21) (.tmp 23) 22 rfl w.heap.size 31 i1 (.agg (repCells 0 0 (.slice none 0 0))) 3 40 Try.underlying22 hi1 hz10 hz11 hz12 rfl (by decide) _ k vs.flatten rfl own5 ⟨W11.heap.size, 0, none⟩ 1 1 [.int .i64 i, .int .i64 e, .slice A1 m c1] rfl rfl hnews (fun x hx => by simp at hx; rcases hx with rfl | rfl | rfl <;> rfl) (by unfold maxLen; omega) (by omega) hbase ?_; intro v2 w6 own2 hg6 _; clear own5 hnews))
      exact ⟨⟨k + 1, by omega, by go_num, OwnsR.step HX.out H1.out HV.out.1 HV.out.2 HB.out H3.out HB6.out HOR.out own2 hg6⟩, by simp [intOf]; omega⟩
    · obtain rfl : k = n := by omega
      have hT : l.take k = l := List.take_of_length_le (by rw [HL.out]; exact Nat.le_refl _)
      rw [hT] at hO
      go_wp2_with fail
      go_ret
      exact ⟨_, rfl, hO⟩
end Go.Proofs.Ytamofhjnpahamaa

/- The document's Join of any replies. -/
set_option maxRecDepth 4000
namespace Go.Proofs.Ytamofhjnpahamaa
open Go Go.RowKit
set_option maxHeartbeats 1600000 in
theorem refjoin_any (A : Option Addr) (n c : Nat) (l : List Rp) (w : World) (h : RepsAt w (.slice A n c) l) (hn : n ≤ 1000000) :
    Calls Try.prog 14 #[.slice A n c] w fun e w' => ∃ v, e = .returned (.tuple #[v, .int .i64 (jnE l)]) ∧ w'.ownsRow w.heap.size 5 1 v (jnB l).length (bytesV (jnB l)) ∧ Below w.heap.size w w' := by
  have hln := reps_len h
  have HF := Lib.hid (fun k (hk : k < l.length) => reps_get h hk)
  obtain ⟨G, hG⟩ : ∃ G, jnE l = G := ⟨_, rfl⟩
  obtain ⟨J, hJ⟩ : ∃ J, jnB l = J := ⟨_, rfl⟩
  have HALL : Hid ((∀ j < n, ∀ x, l[j]? = some x → okR x = true) → G = 0 ∧ J = (l.map bytR).flatten) := Lib.hid fun h => by
    have ha : l.all okR = true := List.all_eq_true.2 fun x hx => by
      obtain ⟨j, hj, e⟩ := List.getElem_of_mem hx
      exact h j (by omega) x (by rw [List.getElem?_eq_getElem hj, e])
    rw [← hG, ← hJ]; unfold jnE jnB; rw [ha]; exact ⟨rfl, rfl⟩
  have HNO : Hid (∀ (k : Nat) (x : Rp), l[k]? = some x → okR x = false → G = 11 ∧ J = []) := Lib.hid fun k x hx h => by
    have ha : l.all okR = false := by
      cases hb : l.all okR with
      | false => rfl
      | true => rw [List.all_eq_true.1 hb x (List.mem_of_getElem? hx)] at h; cases h
    rw [← hG, ← hJ]; unfold jnE jnB; rw [ha]; exact ⟨rfl, rfl⟩
  have HL := Lib.hid hln
  have HSZ : Hid (∀ k, k ≤ n → (∀ j < k, ∀ x, l[j]? = some x → okR x = true) → ((l.take k).map bytR).flatten.length ≤ 263000000) := Lib.hid fun k hk h => by
    have h1 := jn_len (l := l.take k) (fun x hx => by
      obtain ⟨j, hj, e⟩ := List.getElem_of_mem hx
      rw [List.length_take] at hj
      refine h j (by omega) x ?_
      rw [← e, List.getElem_take, List.getElem?_eq_getElem])
    rw [List.length_take] at h1
    omega
  rw [hG, hJ]
  clear h hG hJ hln
  go_enter Try.func14, Try.ntmps14
  go_wp2_with fail
  go_loopw [4, 5] (fun v i wr => ∃ k : Nat, k ≤ n ∧ i = .int .i64 k ∧ Hid (∀ j < k, ∀ x, l[j]? = some x → okR x = true) ∧ wr.ownsRow w.heap.size 5 1 v ((l.take k).map bytR).flatten.length (bytesV ((l.take k).map bytR).flatten) ∧ Below w.heap.size w wr) (fun _ i _ => n - (intOf i).toNat)
  case atStart => exact ⟨0, by omega, rfl, Lib.hid fun j hj => by omega, World.ownsRow_nil _ _ _ _, Below.refl _ _⟩
  case round =>
    obtain ⟨k, hk, rfl, hE, hO, hB⟩ := hrel
    have HO := Lib.hid hO
    have HB := Lib.hid hB
    clear hO hB
    by_cases hlt : k < n
    · obtain ⟨b, o, i, e, B, m, c', d, hx, rfl, hb, hr, hs, hm, hA, hmm, _⟩ := HF.out k (by rw [HL.out]; exact hlt)
      obtain ⟨O, hO⟩ : ∃ O, o + k * 3 = O := ⟨_, rfl⟩
      rw [hO] at hr
      have HX := Lib.hid hx
      have HM := Lib.hid hm
      have HS0 := Lib.hid hs
      have HA := Lib.hid hA
      have HW := Lib.hid hb
      have HR : Hid (wr.rangeAt b O [.int .i64 i, .int .i64 e, .slice B m c']) := Lib.hid fun j v hv => (HB.out.cell (p := ⟨b, O + j, none⟩) hb).trans (hr j v hv)
      clear hx hr hs hm hA hmm hb
      have hBs := HB.out.size
      have hk0 : (0 : Int) ≤ (k : Int) := by omega
      have hk1 : (k : Int) < (n : Int) := by omega
      have hs2 := HS0.out.below HB.out (Nat.le_refl _)
      cases hok : mayR i e m with
      | false =>
        have C := Lib.hid (refrep_bad i e B m c' wr hok)
        obtain ⟨hG, hJ⟩ := HNO.out k _ HX.out (by unfold okR; rw [HM.out]; exact hok)
        clear hs2 hok
        go_wp2_with (first | ((with_reducible refine wpList_plain ?_ ?_); exact rfl; intro KK hKK; refine wp_load_mid 31 (.tmp 17) rfl b O rfl [.int .i64 i, .int .i64 e, .slice B m c'] _ HR.out Try.underlying31 rfl (by exact size_rep) (hKK _ _ ?_); clear hKK KK))
        refine C.out.mono ?_
        rintro x w3 ⟨rfl, hb3⟩
        clear C hk0 hk1 hO
        go_wp2_with fail
        go_ret2
        exact ⟨_, by first | (rw [hG]; done) | (rw [hG]; rfl), by rw [hJ]; exact World.ownsRow_nil _ _ _ _, HB.out.trans (hb3.mono hBs)⟩
      | true =>
        have C := Lib.hid (refrep_good i e B m c' d HM.out wr hs2 HA.out hok)
        have HOK : Hid (okR (i, e, d) = true) := Lib.hid (by unfold okR; rw [HM.out]; exact hok)
        clear hs2 hok
        go_wp2_with (first | ((with_reducible refine wpList_plain ?_ ?_); exact rfl; intro KK hKK; refine wp_load_mid 31 (.tmp 17) rfl b O rfl [.int .i64 i, .int .i64 e, .slice B m c'] _ HR.out Try.underlying31 rfl (by exact size_rep) (hKK _ _ ?_); clear hKK KK))
        refine C.out.mono ?_
        rintro x w3 ⟨v3, rfl, ho3, hb3⟩
        have HB3 := Lib.hid (HB.out.trans (hb3.mono hBs))
        have HO3 := Lib.hid (owns_call HO.out hb3)
        have hsl := own_slice ho3
        have hnl := own_nil ho3
        obtain ⟨A3, c3, rfl, _⟩ := own_slice_form ho3
        have HE2 : Hid (∀ j < k + 1, ∀ x, l[j]? = some x → okR x = true) := Lib.hid fun j hj x hjx => by
          by_cases hjk : j = k
          · subst hjk
            have := HX.out.symm.trans hjx
            injection this with this
            subst this
            exact HOK.out
          · exact hE.out j (by omega) x hjx
        have hz1 := HSZ.out k hk hE.out
        have hz2 := okR_len HOK.out
        have hz3 : (repB i e d).length = 8 + d.length := hz2.1
        have hz4 : d.length ≤ 255 := hz2.2
        clear C ho3 hz2 HO hk0 hk1 hO
        obtain ⟨L, hL⟩ : ∃ L, (repB i e d).length = L := ⟨_, rfl⟩
        rw [hL] at hz3 hsl hnl ⊢
        have hz5 : L ≤ 263 := by omega
        have HLL := Lib.hid hL
        clear hz3 hz4 hL
        obtain ⟨M, hM⟩ : ∃ M, ((l.take k).map bytR).flatten.length = M := ⟨_, rfl⟩
        rw [hM] at hz1 HO3
        have HMM := Lib.hid hM
        clear hM
        have HBs : w.heap.size ≤ w3.heap.size := HB3.out.size
        go_wp2_with (at_builtin; refine wpList_append_slice rfl (.tmp 25) (.tmp 26) rfl w.heap.size _ M _ rfl HO3.out A3 L c3 _ rfl hsl (fun h => hnl _ _ (by rw [h])) (by omega) HBs ?_; intro v5 w5 own5 hb5; rw [← bytesV_apps] at own5; have HO5 := Lib.hid own5; have HB5 := Lib.hid (HB3.out.trans hb5); clear own5 hb5 hsl hnl)
        refine ⟨⟨k + 1, by omega, by go_num, HE2, ?_, HB5.out⟩, by simp [intOf]; omega⟩
        have hj := jn_take HX.out
        rw [hj, List.length_append, HMM.out, show (bytR (i, e, d)).length = L from HLL.out]
        exact HO5.out
    · obtain rfl : k = n := by omega
      obtain ⟨hG, hJ⟩ := HALL.out hE.out
      have hT : l.take k = l := List.take_of_length_le (by rw [HL.out]; exact Nat.le_refl _)
      rw [hT, ← hJ] at HO
      go_wp2_with fail
      go_ret2
      exact ⟨_, by first | (rw [hG]; done) | (rw [hG]; rfl), HO.out, HB.out⟩
end Go.Proofs.Ytamofhjnpahamaa
