/- Merged: LabelSpec LabelRef LabelRefE LabelBits LabelRefD LabelIf Low LabelPrgB LabelPrgE LabelPrgD LabBits LabelPrg PktSpec LowC LabelWakes LabelOpen LabelRefL PkOpen. -/
import Derived.Laws.StructEq
import Derived.Deep.Cut
import Derived.Deep.AppendLies
import Derived.Test.YtbdpocbnkgckhaaMSeal0
import Derived.Test.YtbdpocbnkgckhaaMGen0
/- A label as plain data: its bytes, what bytes tell, which is later, the bits of numbers. No program is named here. -/
set_option maxRecDepth 4000
namespace Go.Proofs.Ytbdpocbnkgckhaa
def le (v : BitVec 32) (n : Nat) : List (BitVec 8) := (List.range n).map fun i => (v >>> (8 * i)).setWidth 8
def num (b : List (BitVec 8)) : BitVec 32 := b.foldr (fun x v => (v <<< 8) + x.setWidth 32) 0#32
structure Lab where
  e : BitVec 32
  s : BitVec 32
  n : BitVec 32
  d : BitVec 16
  l : BitVec 16
deriving DecidableEq
def labBody (L : Lab) : List (BitVec 8) := le L.e 4 ++ le L.s 4 ++ le L.n 4 ++ le (L.d.setWidth 32) 2 ++ le (L.l.setWidth 32) 2
def labB (L : Lab) : List (BitVec 8) := sealedB 0x4c#8 (labBody L)
def labOf (b : List (BitVec 8)) : Lab := ⟨num (b.take 4), num ((b.drop 4).take 4), num ((b.drop 8).take 4), (num ((b.drop 12).take 2)).setWidth 16, (num ((b.drop 14).take 2)).setWidth 16⟩
def lab0 : Lab := ⟨0#32, 0#32, 0#32, 0#16, 0#16⟩
def labIs (b : List (BitVec 8)) : Bool := decOk b && decide (labB (labOf (bodyOf b)) = b)
def decLab (b : List (BitVec 8)) : Lab := if b = List.replicate 32 0#8 then lab0 else if labIs b then labOf (bodyOf b) else lab0
def decLabE (b : List (BitVec 8)) : Int := if b = List.replicate 32 0#8 then 0 else if labIs b then 0 else 11
def laterB (e s t n : BitVec 32) : Bool := decide (t.toNat < e.toNat) || (decide (e = t) && decide (n.toNat < s.toNat))
theorem length_le (v : BitVec 32) (n : Nat) : (le v n).length = n := by simp [le]
theorem le_succ (v : BitVec 32) (n : Nat) : le v (n + 1) = le v n ++ [(v >>> (8 * n)).setWidth 8] := by simp [le, List.range_succ]
theorem length_labBody (L : Lab) : (labBody L).length = 16 := by simp [labBody, length_le]
theorem length_labB (L : Lab) : (labB L).length = 32 := length_sealedB (by rw [length_labBody]; decide)
theorem num4 (a b c d : BitVec 8) : num [a, b, c, d] = (((((d.setWidth 32) <<< 8) + c.setWidth 32) <<< 8) + b.setWidth 32) <<< 8 + a.setWidth 32 := by
  simp [num]
theorem num_le4 (v : BitVec 32) : num (le v 4) = v := by
  have e : le v 4 = [v.setWidth 8, (v >>> 8).setWidth 8, (v >>> 16).setWidth 8, (v >>> 24).setWidth 8] := by simp [le, List.range_succ]
  rw [e, num4]
  apply BitVec.eq_of_toNat_eq
  simp only [BitVec.toNat_add, BitVec.toNat_shiftLeft, BitVec.toNat_setWidth, BitVec.toNat_ushiftRight, Nat.shiftLeft_eq, Nat.shiftRight_eq_div_pow]
  have := v.isLt
  omega
theorem num_le2 (d : BitVec 16) : (num (le (d.setWidth 32) 2)).setWidth 16 = d := by
  have e : le (d.setWidth 32) 2 = [(d.setWidth 32).setWidth 8, (d.setWidth 32 >>> 8).setWidth 8] := by simp [le, List.range_succ]
  rw [e]
  apply BitVec.eq_of_toNat_eq
  simp only [num, List.foldr_cons, List.foldr_nil, BitVec.toNat_add, BitVec.toNat_shiftLeft, BitVec.toNat_setWidth, BitVec.toNat_ushiftRight, Nat.shiftLeft_eq, Nat.shiftRight_eq_div_pow, BitVec.toNat_ofNat]
  have := d.isLt
  omega
theorem labOf_pad (L : Lab) (r : List (BitVec 8)) : labOf (labBody L ++ r) = L := by
  have h4 : ∀ (v : BitVec 32) (x : List (BitVec 8)), (le v 4 ++ x).take 4 = le v 4 := fun v x => by rw [List.take_append_of_le_length (by rw [length_le]; exact Nat.le_refl _), List.take_of_length_le (by rw [length_le]; exact Nat.le_refl _)]
  have h2 : ∀ (v : BitVec 32) (x : List (BitVec 8)), (le v 2 ++ x).take 2 = le v 2 := fun v x => by rw [List.take_append_of_le_length (by rw [length_le]; exact Nat.le_refl _), List.take_of_length_le (by rw [length_le]; exact Nat.le_refl _)]
  have d4 : ∀ (v : BitVec 32) (x : List (BitVec 8)) (k : Nat), (le v 4 ++ x).drop (k + 4) = x.drop k := fun v x k => by rw [List.drop_append, List.drop_of_length_le (by rw [length_le]; omega), length_le, List.nil_append]; congr 1
  have d2 : ∀ (v : BitVec 32) (x : List (BitVec 8)) (k : Nat), (le v 2 ++ x).drop (k + 2) = x.drop k := fun v x k => by rw [List.drop_append, List.drop_of_length_le (by rw [length_le]; omega), length_le, List.nil_append]; congr 1
  unfold labOf labBody
  simp only [List.append_assoc]
  rw [h4, d4 _ _ 0, d4 _ _ 4, d4 _ _ 0, d4 _ _ 8, d4 _ _ 4, d4 _ _ 0, d4 _ _ 10, d4 _ _ 6, d4 _ _ 2, d2 _ _ 0]
  simp only [List.drop_zero]
  rw [h4, h4, h2, h2, num_le4, num_le4, num_le4, num_le2, num_le2]
theorem bodyOf_labB (L : Lab) : bodyOf (labB L) = labBody L ++ List.replicate 13 0#8 := by
  have h := length_labBody L
  show ((labBody L ++ List.replicate (29 - (labBody L).length) 0#8) ++ crcTail _).take 29 = _
  rw [h]
  exact List.take_left' (by rw [List.length_append, h, List.length_replicate])
theorem labOf_labB (L : Lab) : labOf (bodyOf (labB L)) = L := by rw [bodyOf_labB, labOf_pad]
theorem labIs_labB (L : Lab) : labIs (labB L) = true := by
  unfold labIs
  rw [labOf_labB, decide_eq_true rfl, Bool.and_true]
  exact decOk_sealedB (by decide) (by rw [length_labBody]; decide)
theorem labB_ne (L : Lab) : labB L ≠ List.replicate 32 0#8 := fun h => by
  have := congrArg markOf h
  rw [show markOf (labB L) = 0x4c#8 from rfl] at this
  exact absurd this (by decide)
theorem decLab_labB (L : Lab) : decLab (labB L) = L := by unfold decLab; rw [if_neg (labB_ne L), labIs_labB, if_pos rfl, labOf_labB]
theorem decLabE_labB (L : Lab) : decLabE (labB L) = 0 := by unfold decLabE; rw [if_neg (labB_ne L), labIs_labB, if_pos rfl]
end Go.Proofs.Ytbdpocbnkgckhaa

/- The document's numbers as bytes, the lowest first, and back. -/
set_option maxRecDepth 4000
namespace Go.Proofs.Ytbdpocbnkgckhaa
open Go Go.RowKit
attribute [local go_sem] low_wd low8_wd low16_wd low24_wd shl8_wd conv_bd add_wd
theorem bytesV_snoc (q : List (BitVec 8)) (x : BitVec 8) : bytesV (q ++ [x]) = bytesV q ++ bytesV [x] := by simp [bytesV]
set_option maxHeartbeats 800000 in
theorem refput_any (v : BitVec 32) (n : Nat) (w : World) (hn : n ≤ 4) :
    Calls Try.prog 40 #[.int .u32 (wd v), .int .i64 (n : Int)] w fun e w' => ∃ u, e = .returned u ∧ w'.ownsRow w.heap.size 5 1 u n (bytesV (le v n)) ∧ Below w.heap.size w w' := by
  have HS : Hid (∀ k, le v (k + 1) = le v k ++ [(v >>> (8 * k)).setWidth 8]) := Lib.hid (le_succ v)
  obtain ⟨L, hL⟩ : ∃ L, le v = L := ⟨_, rfl⟩
  have HL0 : Hid (L 0 = []) := Lib.hid (by rw [← hL]; rfl)
  rw [hL] at HS ⊢
  clear hL
  go_enter Try.func40, Try.ntmps40
  go_wp2_with fail
  go_loopw [5, 6] (fun s i wr => ∃ k : Nat, k ≤ n ∧ i = .int .i64 k ∧ wr.ownsRow w.heap.size 5 1 s k (bytesV (L k)) ∧ Below w.heap.size w wr) (fun _ i _ => n - (intOf i).toNat)
  case atStart => exact ⟨0, by omega, rfl, by rw [HL0.out]; exact World.ownsRow_nil _ _ _ _, Below.refl _ _⟩
  case round =>
    obtain ⟨k, hk, rfl, hO, hB⟩ := hrel
    obtain ⟨A, c, rfl, _⟩ := own_slice_form hO
    by_cases hlt : k < n
    · have hs := HS.out k
      have HB := Lib.hid hB
      have hlt' : (k : Int) < (n : Int) := by omega
      obtain ⟨x, hx⟩ : ∃ x, (v >>> (8 * k)).setWidth 8 = x := ⟨_, rfl⟩
      rw [hx] at hs
      have HSS := Lib.hid hs
      have HO := Lib.hid (hO.alloc (.cells #[.int .u8 (bd x)] 5))
      have HR : Hid (Slice (wr.alloc (.cells #[.int .u8 (bd x)] 5)) (.slice (some ⟨wr.heap.size, 0, none⟩) 1 1) [x]) := Lib.hid (row_slice (Row.fresh wr 5 (bs [x])) (c := 1) (Nat.le_refl _))
      have HB2 := Lib.hid (hB.alloc hB.size (.cells #[.int .u8 (bd x)] 5))
      clear hO hB hs
      rcases k with _ | _ | _ | _ | k
      · subst hx
        go_wp2_with (at_builtin; refine wpList_append_slice rfl (.tmp 12) (.tmp 19) rfl w.heap.size _ _ _ rfl HO.out (some ⟨wr.heap.size, 0, none⟩) 1 1 _ rfl HR.out (fun h => by cases h) (by omega) HB2.out.size ?_; intro v6 w6 own6 hb6; have HO6 := Lib.hid own6; have HB6 := Lib.hid (HB2.out.trans hb6); clear own6 hb6)
        exact ⟨⟨1, by omega, rfl, by rw [HSS.out, bytesV_snoc]; exact HO6.out, HB6.out⟩, by simp [intOf] <;> omega⟩
      · subst hx
        go_wp2_with (at_builtin; refine wpList_append_slice rfl (.tmp 12) (.tmp 19) rfl w.heap.size _ _ _ rfl HO.out (some ⟨wr.heap.size, 0, none⟩) 1 1 _ rfl HR.out (fun h => by cases h) (by omega) HB2.out.size ?_; intro v6 w6 own6 hb6; have HO6 := Lib.hid own6; have HB6 := Lib.hid (HB2.out.trans hb6); clear own6 hb6)
        exact ⟨⟨2, by omega, rfl, by rw [HSS.out, bytesV_snoc]; exact HO6.out, HB6.out⟩, by simp [intOf] <;> omega⟩
      · subst hx
        go_wp2_with (at_builtin; refine wpList_append_slice rfl (.tmp 12) (.tmp 19) rfl w.heap.size _ _ _ rfl HO.out (some ⟨wr.heap.size, 0, none⟩) 1 1 _ rfl HR.out (fun h => by cases h) (by omega) HB2.out.size ?_; intro v6 w6 own6 hb6; have HO6 := Lib.hid own6; have HB6 := Lib.hid (HB2.out.trans hb6); clear own6 hb6)
        exact ⟨⟨3, by omega, rfl, by rw [HSS.out, bytesV_snoc]; exact HO6.out, HB6.out⟩, by simp [intOf] <;> omega⟩
      · subst hx
        go_wp2_with (at_builtin; refine wpList_append_slice rfl (.tmp 12) (.tmp 19) rfl w.heap.size _ _ _ rfl HO.out (some ⟨wr.heap.size, 0, none⟩) 1 1 _ rfl HR.out (fun h => by cases h) (by omega) HB2.out.size ?_; intro v6 w6 own6 hb6; have HO6 := Lib.hid own6; have HB6 := Lib.hid (HB2.out.trans hb6); clear own6 hb6)
        exact ⟨⟨4, by omega, rfl, by rw [HSS.out, bytesV_snoc]; exact HO6.out, HB6.out⟩, by simp [intOf] <;> omega⟩
      · omega
    · obtain rfl : k = n := by omega
      have HO := Lib.hid hO
      have HB := Lib.hid hB
      clear hO hB
      go_wp2_with fail
      go_ret
      exact ⟨_, rfl, HO.out, HB.out⟩
end Go.Proofs.Ytbdpocbnkgckhaa

/- The document's sector of a label. -/
set_option maxRecDepth 4000
namespace Go.Proofs.Ytbdpocbnkgckhaa
open Go Go.RowKit
def labCells (L : Lab) : Array Value := #[.int .u32 (wd L.e), .int .u32 (wd L.s), .int .u32 (wd L.n), .int .u16 (hd L.d), .int .u16 (hd L.l)]
end Go.Proofs.Ytbdpocbnkgckhaa

/- Puts as they lie in memory; the document's bits of puts. -/
set_option maxRecDepth 4000
namespace Go.Proofs.Ytbdpocbnkgckhaa
open Go Go.RowKit
def bit1 (i : Int) : BitVec 16 := if 0 ≤ i ∧ i < 12 then 1#16 <<< i.toNat else 0#16
def bitsOf (l : List Int) : BitVec 16 := l.foldl (fun v i => v ||| bit1 i) 0#16
theorem bitsOf_take (l : List Int) (k : Nat) (hk : k < l.length) : bitsOf (l.take (k + 1)) = bitsOf (l.take k) ||| bit1 l[k] := by
  unfold bitsOf
  rw [List.take_succ_eq_append_getElem hk, List.foldl_append]; rfl
theorem bit1_eq (i : Int) (h0 : 0 ≤ i) (h1 : i < 12) : IntKind.u16.wrap (2 ^ i.toNat) = hd (bit1 i) := by
  obtain ⟨n, rfl⟩ := Int.eq_ofNat_of_zero_le h0
  have hn : n < 12 := by omega
  have key : ∀ n : Nat, n < 12 → IntKind.u16.wrap ((2 : Int) ^ n) = hd (bit1 (n : Int)) := by decide +kernel
  exact key n hn
attribute [local go_sem] or_hd
end Go.Proofs.Ytbdpocbnkgckhaa

/- The document's label of a sector. -/
set_option maxRecDepth 4000
namespace Go.Proofs.Ytbdpocbnkgckhaa
open Go Go.RowKit
theorem size_lab : (Try.prog.info? 46).map (·.size) = some 5 := by kernel_rfl
theorem one_lab (L : Lab) : (labCells L).all (·.oneCell') = true := by unfold labCells; simp [Value.oneCell']
theorem zeros_lab : (#[.int .u32 0, .int .u32 0, .int .u32 0, .int .u16 0, .int .u16 0] : Array Value) = labCells lab0 := by rfl
theorem At2.at_ {w W : World} {g1 g2 B0 : Nat} {t1 t2 : TypeId} {c1 c2 : Array Value} (h : At2 w W g1 t1 c1 g2 t2 c2 B0) : At2 w W g1 t1 c1 g2 t2 c2 W.heap.size :=
  ⟨h.r1, h.r2, h.below, Nat.le_refl _, h.lo1, h.lo2, h.r1.lt, h.r2.lt, h.below.size⟩
end Go.Proofs.Ytbdpocbnkgckhaa

/- Two labels compared; what the statements of label need to know of the program's label. -/
set_option maxRecDepth 4000
namespace Go.Proofs.Ytbdpocbnkgckhaa
open Go Go.RowKit
theorem labCells_inj {L M : Lab} (h1 : wd L.e = wd M.e) (h2 : wd L.s = wd M.s) (h3 : wd L.n = wd M.n) (h4 : hd L.d = hd M.d) (h5 : hd L.l = hd M.l) : L = M := by
  cases L; cases M
  simp only at h1 h2 h3 h4 h5
  rw [wd_inj h1, wd_inj h2, wd_inj h3, hd_inj h4, hd_inj h5]
theorem eql_lab (L M : Lab) (w : World) : (Op.equalIn 10000 46 (.agg (labCells L)) (.agg (labCells M))).run Try.prog w = .ok (decide (L = M)) w := by
  have hS : Try.prog.underlying 46 = some (.struct (Try.prog.fieldsOf 46)) := by kernel_rfl
  have e : decide (L = M) = (wd L.e == wd M.e && (wd L.s == wd M.s && (wd L.n == wd M.n && (hd L.d == hd M.d && hd L.l == hd M.l)))) := by
    by_cases h : L = M
    · subst h; simp
    · rw [decide_eq_false h]
      symm
      cases hx : (wd L.e == wd M.e && (wd L.s == wd M.s && (wd L.n == wd M.n && (hd L.d == hd M.d && hd L.l == hd M.l)))) with
      | false => rfl
      | true =>
        simp only [Bool.and_eq_true, beq_iff_eq] at hx
        exact absurd (labCells_inj hx.1 hx.2.1 hx.2.2.1 hx.2.2.2.1 hx.2.2.2.2) h
  rw [e, show (10000 : Nat) = 9999 + 1 from rfl, run_equalIn_agg w 9999 46 _ _ hS (by kernel_rfl)]
  unfold labCells
  have u1 := Try.underlying26
  have u2 := Try.underlying44
  simp only [Program.fieldsOf, Try.underlying46]
  generalize wd L.e = a1
  generalize wd L.s = a2
  generalize wd L.n = a3
  generalize hd L.d = a4
  generalize hd L.l = a5
  generalize wd M.e = b1
  generalize wd M.s = b2
  generalize wd M.n = b3
  generalize hd M.d = b4
  generalize hd M.l = b5
  go_simp
  by_cases h1 : a1 = b1 <;> by_cases h2 : a2 = b2 <;> by_cases h3 : a3 = b3 <;> by_cases h4 : a4 = b4 <;> by_cases h5 : a5 = b5 <;> simp [h1, h2, h3, h4, h5]
end Go.Proofs.Ytbdpocbnkgckhaa

/- Numbers as bytes, the lowest first, as the program's lowfirst appends and reads them. -/
set_option maxRecDepth 4000
namespace Go.Proofs.Ytbdpocbnkgckhaa
open Go Go.RowKit
theorem bytesV_apps (p q : List (BitVec 8)) : bytesV (p ++ q) = bytesV p ++ bytesV q := by simp [bytesV]
def two (n : BitVec 16) : List (BitVec 8) := [n.setWidth 8, (n >>> 8).setWidth 8]
def four (v : BitVec 32) : List (BitVec 8) := two (v.setWidth 16) ++ two ((v >>> 16).setWidth 16)
def sv (o : Nat) (q : List (BitVec 8)) : BitVec 16 := (q.getD o 0#8).setWidth 16 ||| ((q.getD (o + 1) 0#8).setWidth 16) <<< 8
def lv (o : Nat) (q : List (BitVec 8)) : BitVec 32 := (sv o q).setWidth 32 ||| ((sv (o + 2) q).setWidth 32) <<< 16
theorem lw16 (x : BitVec 32) : IntKind.u16.wrap (wd x) = hd (x.setWidth 16) := by
  rw [IntKind.wrap_u16]; unfold wd hd; have := x.isLt; rw [BitVec.toNat_setWidth]; omega
theorem lwh (x : BitVec 16) : IntKind.u32.wrap (hd x) = wd (x.setWidth 32) := by
  rw [IntKind.wrap_u32]; unfold wd hd; have := x.isLt; rw [BitVec.toNat_setWidth]; omega
theorem lsh16 (x : BitVec 32) : IntKind.u16.wrap (wd x / (65536 : Int)) = hd ((x >>> 16).setWidth 16) := by rw [show wd x / (65536 : Int) = wd (x >>> 16) from shr_wd x 16, lw16]
attribute [local go_sem] lowb_hd lowb8_hd convb_hd shl8_hd or_hd lw16 lsh16 lwh or_wd shl16_wd
set_option maxHeartbeats 400000 in
theorem appshort_any (base : Nat) (q : List (BitVec 8)) (n : BitVec 16) (v : Value) (w : World) (h : w.ownsRow base 5 1 v q.length (bytesV q)) (hb : base ≤ w.heap.size) (hl : q.length ≤ 1000) :
    Calls Try.prog 58 #[v, .int .u16 (hd n)] w fun e w' => ∃ v', e = .returned v' ∧ w'.ownsRow base 5 1 v' (q.length + 2) (bytesV (q ++ two n)) ∧ Below base w w' := by
  obtain ⟨m, hm⟩ : ∃ m, q.length = m := ⟨_, rfl⟩
  rw [hm] at h hl ⊢
  clear hm
  obtain ⟨C, hC⟩ : ∃ C, (#[.int .u8 (bd (n.setWidth 8)), .int .u8 (bd ((n >>> 8).setWidth 8))] : Array Value) = C := ⟨_, rfl⟩
  have HR4 : Hid (Slice (w.alloc (.cells #[.int .u8 (bd (n.setWidth 8)), .int .u8 (bd ((n >>> 8).setWidth 8))] 5)) (.slice (some ⟨w.heap.size, 0, none⟩) 2 2) (two n)) := Lib.hid (row_slice (Row.fresh w 5 (bs (two n))) (c := 2) (Nat.le_refl _))
  have HO4 := Lib.hid (h.alloc (.cells #[.int .u8 (bd (n.setWidth 8)), .int .u8 (bd ((n >>> 8).setWidth 8))] 5))
  have HB2 := Lib.hid ((Below.refl base w).alloc hb (.cells #[.int .u8 (bd (n.setWidth 8)), .int .u8 (bd ((n >>> 8).setWidth 8))] 5))
  have HB4 := Lib.hid (Nat.le_trans hb HB2.out.size)
  clear h hb hC
  go_enter Try.func58, Try.ntmps58
  go_wp2_with (at_builtin; refine wpList_append_slice rfl (.tmp 5) (.tmp 11) rfl base _ m _ rfl HO4.out (some ⟨w.heap.size, 0, none⟩) 2 2 _ rfl HR4.out (fun h => by cases h) (by omega) HB4.out ?_; intro v6 w6 own6 hb6; rw [← bytesV_apps] at own6; have HO6 := Lib.hid own6; have HB6 := Lib.hid (HB2.out.trans hb6); clear own6 hb6)
  go_ret
  exact ⟨_, rfl, HO6.out, HB6.out⟩
set_option maxHeartbeats 400000 in
theorem applong_any (base : Nat) (q : List (BitVec 8)) (n : BitVec 32) (v : Value) (w : World) (h : w.ownsRow base 5 1 v q.length (bytesV q)) (hb : base ≤ w.heap.size) (hl : q.length ≤ 900) :
    Calls Try.prog 66 #[v, .int .u32 (wd n)] w fun e w' => ∃ v', e = .returned v' ∧ w'.ownsRow base 5 1 v' (q.length + 4) (bytesV (q ++ four n)) ∧ Below base w w' := by
  have C1 := appshort_any base q (n.setWidth 16) v w h hb (by omega)
  have HB := Lib.hid hb
  have HL := Lib.hid hl
  clear h hb hl
  go_enter Try.func66, Try.ntmps66
  go_wp2_with fail
  refine C1.mono ?_
  rintro e w1 ⟨v1, rfl, h1, b1⟩
  clear C1
  have C2 := appshort_any base (q ++ two (n.setWidth 16)) ((n >>> 16).setWidth 16) v1 w1 (by rw [List.length_append]; exact h1) (Nat.le_trans HB.out b1.size) (by rw [List.length_append]; have := HL.out; show q.length + 2 ≤ 1000; omega)
  have B1 := Lib.hid b1
  clear h1 b1
  go_wp2_with fail
  refine C2.mono ?_
  rintro e w2 ⟨v2, rfl, h2, b2⟩
  clear C2
  rw [List.append_assoc, List.length_append] at h2
  have H2 := Lib.hid h2
  have B2 := Lib.hid (B1.out.trans b2)
  clear h2 b2
  go_wp2_with fail
  go_ret
  exact ⟨_, rfl, H2.out, B2.out⟩
set_option maxHeartbeats 800000 in
theorem short_any (g o len c : Nat) (t : TypeId) (q : List (BitVec 8)) (w : World) (hR : Row w g t (bs q)) (ha : o + 2 ≤ q.length) (hl : 2 ≤ len) :
    Calls Try.prog 45 #[.slice (some ⟨g, o, none⟩) len c] w fun e w' => e = .returned (.int .u16 (hd (sv o q))) ∧ Below w.heap.size w w' := by
  have hl0 : (0 : Int) < (len : Int) := by omega
  have hl1 : (1 : Int) < (len : Int) := by omega
  have hn0 : 0 < len := by omega
  have hn1 : 1 < len := by omega
  have H0 : Hid (o < q.length) := Lib.hid (by omega)
  have H1 : Hid (o + 1 < q.length) := Lib.hid (by omega)
  clear ha hl
  have hF0 : Wl [fun W => Below w.heap.size w W ∧ Row W g t (bs q)] 0 w.drew := ⟨(Below.refl _ _).drew, hR⟩
  clear hR
  go_enter Try.func45, Try.ntmps45
  go_upto_region 1 with fail
  refine wp_region_phs [is (.slice (some ⟨g, o, none⟩) len c), is (.pointer (some ⟨g, o, none⟩)), is (.int .u8 (bd (q.getD o 0#8))), is (.int .u16 (hd ((q.getD o 0#8).setWidth 16))), is (.slice (some ⟨g, o, none⟩) len c), is (.pointer (some ⟨g, o + 1, none⟩)), is (.int .u8 (bd (q.getD (o + 1) 0#8))), is (.int .u16 (hd ((q.getD (o + 1) 0#8).setWidth 16))), is (.int .u16 (hd (((q.getD (o + 1) 0#8).setWidth 16) <<< 8))), is (.int .u16 (hd (sv o q))), is (.int .u16 (hd (sv o q)))] [true, true, true, true, true, true, true, true, true, true, true] [(fun W => Below w.heap.size w W ∧ Row W g t (bs q))] [false, false, false, false, false, false, false, false, false, false, false] [some 0, some 0, some 0, some 0, some 0, some 0, some 0, some 0, some 0, some 0, some 0] [some 3, some 4, some 5, some 6, some 7, some 8, some 9, some 10, some 11, some 12, some 2] 11 0 (fun _ => true) rfl rfl (by kernel_rfl) (by kernel_rfl) (by kernel_rfl) (by kernel_rfl) ?_ ?_ ?_ ?_ ?_ ?_
  · repeat first | exact wok_nil | refine wok_cons (by first | exact fun _ _ h k => ⟨h.1.trans (k.mono h.1.size), h.2.call k⟩) ?_
  · repeat first | exact vok_nil | refine vok_rig (by first | exact fun _ _ _ h => h) ?_ | refine vok_soft (by first | exact fun _ _ _ h _ => h) ?_
  · exact hF0
  · repeat first | exact all_end (by decide) | refine all_cons (by first | exact rfl | exact ⟨rfl, fun _ _ h => Or.inl h⟩ | exact ⟨rfl, fun _ _ h => Or.inr ⟨h, rfl⟩⟩) ?_
  · refine allp_mild 0 rfl rfl rfl (fun a x W hout hin hP => ?_) ?_
    · have e0 : a.tmps[0]? = some (.slice (some ⟨g, o, none⟩) len c) := (hout 0 (by kernel_rfl)).trans rfl
      exact does_move rfl e0 ⟨Same.refl _, rfl⟩
    refine allp_mild 0 rfl rfl rfl (fun a x W hout hin hP => ?_) ?_
    · have e3 := hin.is 0 3 (by kernel_rfl) (by decide) (by kernel_rfl) (by kernel_rfl) _ rfl
      clear hin hout
      intro K Q hK
      go_simp
      exact hK _ _ ⟨Same.refl _, rfl⟩
    refine allp_mild 0 rfl rfl rfl (fun a x W hout hin hP => ?_) ?_
    · have e4 := hin.is 1 4 (by kernel_rfl) (by decide) (by kernel_rfl) (by kernel_rfl) _ rfl
      have hc := hP.2.get (i := o) (get_bs q o H0.out)
      clear hP
      clear hin hout
      intro K Q hK
      go_simp
      exact hK _ _ ⟨Same.refl _, rfl⟩
    refine allp_mild 0 rfl rfl rfl (fun a x W hout hin hP => ?_) ?_
    · have e5 := hin.is 2 5 (by kernel_rfl) (by decide) (by kernel_rfl) (by kernel_rfl) _ rfl
      clear hin hout
      intro K Q hK
      go_simp
      exact hK _ _ ⟨Same.refl _, rfl⟩
    refine allp_mild 0 rfl rfl rfl (fun a x W hout hin hP => ?_) ?_
    · have e0 : a.tmps[0]? = some (.slice (some ⟨g, o, none⟩) len c) := (hout 0 (by kernel_rfl)).trans rfl
      exact does_move rfl e0 ⟨Same.refl _, rfl⟩
    refine allp_mild 0 rfl rfl rfl (fun a x W hout hin hP => ?_) ?_
    · have e7 := hin.is 4 7 (by kernel_rfl) (by decide) (by kernel_rfl) (by kernel_rfl) _ rfl
      clear hin hout
      intro K Q hK
      go_simp
      exact hK _ _ ⟨Same.refl _, rfl⟩
    refine allp_mild 0 rfl rfl rfl (fun a x W hout hin hP => ?_) ?_
    · have e8 := hin.is 5 8 (by kernel_rfl) (by decide) (by kernel_rfl) (by kernel_rfl) _ rfl
      have hc := hP.2.get (i := o + 1) (get_bs q (o + 1) H1.out)
      clear hP
      clear hin hout
      intro K Q hK
      go_simp
      exact hK _ _ ⟨Same.refl _, rfl⟩
    refine allp_mild 0 rfl rfl rfl (fun a x W hout hin hP => ?_) ?_
    · have e9 := hin.is 6 9 (by kernel_rfl) (by decide) (by kernel_rfl) (by kernel_rfl) _ rfl
      clear hin hout
      intro K Q hK
      go_simp
      exact hK _ _ ⟨Same.refl _, rfl⟩
    refine allp_mild 0 rfl rfl rfl (fun a x W hout hin hP => ?_) ?_
    · have e10 := hin.is 7 10 (by kernel_rfl) (by decide) (by kernel_rfl) (by kernel_rfl) _ rfl
      clear hin hout
      intro K Q hK
      go_simp
      exact hK _ _ ⟨Same.refl _, rfl⟩
    refine allp_mild 0 rfl rfl rfl (fun a x W hout hin hP => ?_) ?_
    · have e6 := hin.is 3 6 (by kernel_rfl) (by decide) (by kernel_rfl) (by kernel_rfl) _ rfl
      have e11 := hin.is 8 11 (by kernel_rfl) (by decide) (by kernel_rfl) (by kernel_rfl) _ rfl
      clear hin hout
      intro K Q hK
      go_simp
      exact hK _ _ ⟨Same.refl _, rfl⟩
    refine allp_mild 0 rfl rfl rfl (fun a x W hout hin hP => ?_) ?_
    · have e12 := hin.is 9 12 (by kernel_rfl) (by decide) (by kernel_rfl) (by kernel_rfl) _ rfl
      exact does_assign rfl e12 ⟨Same.refl _, rfl⟩
    exact all_end (by decide)
  · intro x W hP hV
    have hb := hP.1
    have h10 : x 10 = .int .u16 (hd (sv o q)) := hV 10 (by decide) (.inl (by kernel_rfl))
    clear hP hV
    simp only [putL, Act.put, List.setIfInBounds_toArray, List.set_cons_succ, List.set_cons_zero, h10]
    refine wpAnyH_done (by kernel_rfl) ?_ _
    clear h10
    go_wp2_with fail
    go_ret
    exact ⟨rfl, hb⟩
set_option maxHeartbeats 800000 in
theorem long_any (g o len c : Nat) (t : TypeId) (q : List (BitVec 8)) (w : World) (hR : Row w g t (bs q)) (ha : o + 4 ≤ q.length) (hl : 4 ≤ len) (hc : len ≤ c) :
    Calls Try.prog 44 #[.slice (some ⟨g, o, none⟩) len c] w fun e w' => e = .returned (.int .u32 (wd (lv o q))) ∧ Below w.heap.size w w' := by
  have hl2 : (2 : Int) ≤ (len : Int) := by omega
  have hc2 : (len : Int) ≤ (c : Int) := by omega
  have hcc : (2 : Int) ≤ (c : Int) := by omega
  have hne : ¬ c = 2 := by omega
  have hn2 : 2 ≤ len := by omega
  have hn3 : 2 ≤ c := by omega
  have H0 : Hid (o + 2 ≤ q.length ∧ 2 ≤ len) := Lib.hid ⟨by omega, by omega⟩
  have H2 : Hid (o + 2 + 2 ≤ q.length ∧ 2 ≤ len - 2) := Lib.hid ⟨by omega, by omega⟩
  clear ha hl hc
  have hF0 : Wl [fun W => Below w.heap.size w W ∧ Row W g t (bs q)] 0 w.drew := ⟨(Below.refl _ _).drew, hR⟩
  clear hR
  go_enter Try.func44, Try.ntmps44
  go_upto_region 1 with fail
  refine wp_region_phs [is (.slice (some ⟨g, o, none⟩) len c), is (.int .u16 (hd (sv o q))), is (.int .u32 (wd ((sv o q).setWidth 32))), is (.slice (some ⟨g, o, none⟩) len c), is (.slice (some ⟨g, o + 2, none⟩) (len - 2) (c - 2)), is (.int .u16 (hd (sv (o + 2) q))), is (.int .u32 (wd ((sv (o + 2) q).setWidth 32))), is (.int .u32 (wd (((sv (o + 2) q).setWidth 32) <<< 16))), is (.int .u32 (wd (lv o q))), is (.int .u32 (wd (lv o q)))] [true, true, true, true, true, true, true, true, true, true] [(fun W => Below w.heap.size w W ∧ Row W g t (bs q))] [false, false, false, false, false, false, false, false, false, false] [some 0, some 0, some 0, some 0, some 0, some 0, some 0, some 0, some 0, some 0] [some 3, some 4, some 5, some 6, some 7, some 8, some 9, some 10, some 11, some 2] 10 0 (fun _ => true) rfl rfl (by kernel_rfl) (by kernel_rfl) (by kernel_rfl) (by kernel_rfl) ?_ ?_ ?_ ?_ ?_ ?_
  · repeat first | exact wok_nil | refine wok_cons (by first | exact fun _ _ h k => ⟨h.1.trans (k.mono h.1.size), h.2.call k⟩) ?_
  · repeat first | exact vok_nil | refine vok_rig (by first | exact fun _ _ _ h => h) ?_ | refine vok_soft (by first | exact fun _ _ _ h _ => h) ?_
  · exact hF0
  · repeat first | exact all_end (by decide) | refine all_cons (by first | exact rfl | exact ⟨rfl, fun _ _ h => Or.inl h⟩ | exact ⟨rfl, fun _ _ h => Or.inr ⟨h, rfl⟩⟩) ?_
  · refine allp_mild 0 rfl rfl rfl (fun a x W hout hin hP => ?_) ?_
    · have e0 : a.tmps[0]? = some (.slice (some ⟨g, o, none⟩) len c) := (hout 0 (by kernel_rfl)).trans rfl
      exact does_move rfl e0 ⟨Same.refl _, rfl⟩
    refine allp_mild 0 rfl rfl rfl (fun a x W hout hin hP => ?_) ?_
    · have e3 := hin.is 0 3 (by kernel_rfl) (by decide) (by kernel_rfl) (by kernel_rfl) _ rfl
      have C := short_any g o len c t q W hP.2 H0.out.1 H0.out.2
      clear hP
      clear hin hout
      intro K Q hK
      go_simp
      refine C.mono ?_
      rintro e W' ⟨rfl, hb⟩
      exact hK _ _ ⟨hb, rfl⟩
    refine allp_mild 0 rfl rfl rfl (fun a x W hout hin hP => ?_) ?_
    · have e4 := hin.is 1 4 (by kernel_rfl) (by decide) (by kernel_rfl) (by kernel_rfl) _ rfl
      clear hin hout
      intro K Q hK
      go_simp
      exact hK _ _ ⟨Same.refl _, rfl⟩
    refine allp_mild 0 rfl rfl rfl (fun a x W hout hin hP => ?_) ?_
    · have e0 : a.tmps[0]? = some (.slice (some ⟨g, o, none⟩) len c) := (hout 0 (by kernel_rfl)).trans rfl
      exact does_move rfl e0 ⟨Same.refl _, rfl⟩
    refine allp_mild 0 rfl rfl rfl (fun a x W hout hin hP => ?_) ?_
    · have e6 := hin.is 3 6 (by kernel_rfl) (by decide) (by kernel_rfl) (by kernel_rfl) _ rfl
      clear hin hout
      intro K Q hK
      go_simp
      exact hK _ _ ⟨Same.refl _, rfl⟩
    refine allp_mild 0 rfl rfl rfl (fun a x W hout hin hP => ?_) ?_
    · have e7 := hin.is 4 7 (by kernel_rfl) (by decide) (by kernel_rfl) (by kernel_rfl) _ rfl
      have C := short_any g (o + 2) (len - 2) (c - 2) t q W hP.2 H2.out.1 H2.out.2
      clear hP
      clear hin hout
      intro K Q hK
      go_simp
      refine C.mono ?_
      rintro e W' ⟨rfl, hb⟩
      exact hK _ _ ⟨hb, rfl⟩
    refine allp_mild 0 rfl rfl rfl (fun a x W hout hin hP => ?_) ?_
    · have e8 := hin.is 5 8 (by kernel_rfl) (by decide) (by kernel_rfl) (by kernel_rfl) _ rfl
      clear hin hout
      intro K Q hK
      go_simp
      exact hK _ _ ⟨Same.refl _, rfl⟩
    refine allp_mild 0 rfl rfl rfl (fun a x W hout hin hP => ?_) ?_
    · have e9 := hin.is 6 9 (by kernel_rfl) (by decide) (by kernel_rfl) (by kernel_rfl) _ rfl
      clear hin hout
      intro K Q hK
      go_simp
      exact hK _ _ ⟨Same.refl _, rfl⟩
    refine allp_mild 0 rfl rfl rfl (fun a x W hout hin hP => ?_) ?_
    · have e5 := hin.is 2 5 (by kernel_rfl) (by decide) (by kernel_rfl) (by kernel_rfl) _ rfl
      have e10 := hin.is 7 10 (by kernel_rfl) (by decide) (by kernel_rfl) (by kernel_rfl) _ rfl
      clear hin hout
      intro K Q hK
      go_simp
      exact hK _ _ ⟨Same.refl _, rfl⟩
    refine allp_mild 0 rfl rfl rfl (fun a x W hout hin hP => ?_) ?_
    · have e11 := hin.is 8 11 (by kernel_rfl) (by decide) (by kernel_rfl) (by kernel_rfl) _ rfl
      exact does_assign rfl e11 ⟨Same.refl _, rfl⟩
    exact all_end (by decide)
  · intro x W hP hV
    have hb := hP.1
    have h10 : x 9 = .int .u32 (wd (lv o q)) := hV 9 (by decide) (.inl (by kernel_rfl))
    clear hP hV
    simp only [putL, Act.put, List.setIfInBounds_toArray, List.set_cons_succ, List.set_cons_zero, h10]
    refine wpAnyH_done (by kernel_rfl) ?_ _
    clear h10
    go_wp2_with fail
    go_ret
    exact ⟨rfl, hb⟩
theorem le4 (v : BitVec 32) : le v 4 = [(v.setWidth 16).setWidth 8, ((v.setWidth 16) >>> 8).setWidth 8, ((v >>> 16).setWidth 16).setWidth 8, (((v >>> 16).setWidth 16) >>> 8).setWidth 8] := by
  have e : le v 4 = [(v >>> (8 * 0)).setWidth 8, (v >>> (8 * 1)).setWidth 8, (v >>> (8 * 2)).setWidth 8, (v >>> (8 * 3)).setWidth 8] := rfl
  rw [e]
  have := v.isLt
  have h0 : (v >>> (8 * 0)).setWidth 8 = (v.setWidth 16).setWidth 8 := BitVec.eq_of_toNat_eq (by simp only [BitVec.toNat_setWidth, BitVec.toNat_ushiftRight, Nat.shiftRight_eq_div_pow]; omega)
  have h1 : (v >>> (8 * 1)).setWidth 8 = ((v.setWidth 16) >>> 8).setWidth 8 := BitVec.eq_of_toNat_eq (by simp only [BitVec.toNat_setWidth, BitVec.toNat_ushiftRight, Nat.shiftRight_eq_div_pow]; omega)
  have h2 : (v >>> (8 * 2)).setWidth 8 = ((v >>> 16).setWidth 16).setWidth 8 := BitVec.eq_of_toNat_eq (by simp only [BitVec.toNat_setWidth, BitVec.toNat_ushiftRight, Nat.shiftRight_eq_div_pow]; omega)
  have h3 : (v >>> (8 * 3)).setWidth 8 = (((v >>> 16).setWidth 16) >>> 8).setWidth 8 := BitVec.eq_of_toNat_eq (by simp only [BitVec.toNat_setWidth, BitVec.toNat_ushiftRight, Nat.shiftRight_eq_div_pow]; omega)
  rw [h0, h1, h2, h3]
theorem le2 (d : BitVec 16) : le (d.setWidth 32) 2 = [d.setWidth 8, (d >>> 8).setWidth 8] := by
  have e : le (d.setWidth 32) 2 = [((d.setWidth 32) >>> (8 * 0)).setWidth 8, ((d.setWidth 32) >>> (8 * 1)).setWidth 8] := rfl
  rw [e]
  have := d.isLt
  have h0 : ((d.setWidth 32) >>> (8 * 0)).setWidth 8 = d.setWidth 8 := BitVec.eq_of_toNat_eq (by simp only [BitVec.toNat_setWidth, BitVec.toNat_ushiftRight, Nat.shiftRight_eq_div_pow]; omega)
  have h1 : ((d.setWidth 32) >>> (8 * 1)).setWidth 8 = (d >>> 8).setWidth 8 := BitVec.eq_of_toNat_eq (by simp only [BitVec.toNat_setWidth, BitVec.toNat_ushiftRight, Nat.shiftRight_eq_div_pow]; omega)
  rw [h0, h1]
theorem num2 (x y : BitVec 8) : (num [x, y]).setWidth 16 = x.setWidth 16 ||| (y.setWidth 16) <<< 8 := by
  have e := (halves ((num [x, y]).setWidth 16) x y).1
  refine (e ⟨?_, ?_⟩).symm
  · apply BitVec.eq_of_toNat_eq
    simp only [num, List.foldr_cons, List.foldr_nil, BitVec.toNat_setWidth, BitVec.toNat_add, BitVec.toNat_shiftLeft, Nat.shiftLeft_eq, BitVec.toNat_ofNat]
    have := x.isLt; have := y.isLt; omega
  · apply BitVec.eq_of_toNat_eq
    simp only [num, List.foldr_cons, List.foldr_nil, BitVec.toNat_setWidth, BitVec.toNat_ushiftRight, Nat.shiftRight_eq_div_pow, BitVec.toNat_add, BitVec.toNat_shiftLeft, Nat.shiftLeft_eq, BitVec.toNat_ofNat]
    have := x.isLt; have := y.isLt; omega
theorem num22 (a b : BitVec 16) : (a.setWidth 32 ||| (b.setWidth 32) <<< 16).toNat = b.toNat * 65536 + a.toNat := by
  have ha := a.isLt; have hb := b.isLt
  rw [BitVec.toNat_or, BitVec.toNat_shiftLeft, BitVec.toNat_setWidth, BitVec.toNat_setWidth, Nat.mod_eq_of_lt (show a.toNat < 2 ^ 32 by omega), Nat.mod_eq_of_lt (show b.toNat < 2 ^ 32 by omega),
    Nat.mod_eq_of_lt (show b.toNat <<< 16 < 2 ^ 32 by rw [Nat.shiftLeft_eq]; omega), Nat.or_comm, ← Nat.shiftLeft_add_eq_or_of_lt (show a.toNat < 2 ^ 16 by omega), Nat.shiftLeft_eq]
theorem num2N (x y : BitVec 8) : (x.setWidth 16 ||| (y.setWidth 16) <<< 8).toNat = y.toNat * 256 + x.toNat := by
  rw [← num2]
  simp only [num, List.foldr_cons, List.foldr_nil, BitVec.toNat_setWidth, BitVec.toNat_add, BitVec.toNat_shiftLeft, Nat.shiftLeft_eq, BitVec.toNat_ofNat]
  have := x.isLt; have := y.isLt; omega
theorem num4w (x y z u : BitVec 8) : (x.setWidth 16 ||| (y.setWidth 16) <<< 8).setWidth 32 ||| ((z.setWidth 16 ||| (u.setWidth 16) <<< 8).setWidth 32) <<< 16 = num [x, y, z, u] := by
  apply BitVec.eq_of_toNat_eq
  rw [num22, num2N, num2N]
  simp only [num, List.foldr_cons, List.foldr_nil, BitVec.toNat_setWidth, BitVec.toNat_add, BitVec.toNat_shiftLeft, Nat.shiftLeft_eq, BitVec.toNat_ofNat]
  have := x.isLt; have := y.isLt; have := z.isLt; have := u.isLt; omega
theorem piece4 (q : List (BitVec 8)) (o : Nat) (h : o + 4 ≤ q.length) : (q.drop o).take 4 = [q.getD o 0#8, q.getD (o + 1) 0#8, q.getD (o + 2) 0#8, q.getD (o + 2 + 1) 0#8] := by
  have g : ∀ k, o + k < q.length → q.getD (o + k) 0#8 = (q.drop o).getD k 0#8 := fun k hk => by rw [List.getD_eq_getElem?_getD, List.getD_eq_getElem?_getD, List.getElem?_drop]
  have hl : 4 ≤ (q.drop o).length := by rw [List.length_drop]; omega
  rw [show q.getD o 0#8 = q.getD (o + 0) 0#8 from rfl, show o + 2 + 1 = o + 3 from rfl, g 0 (by omega), g 1 (by omega), g 2 (by omega), g 3 (by omega)]
  match q.drop o, hl with
  | a :: b :: c :: d :: r, _ => rfl
theorem piece2 (q : List (BitVec 8)) (o : Nat) (h : o + 2 ≤ q.length) : (q.drop o).take 2 = [q.getD o 0#8, q.getD (o + 1) 0#8] := by
  have g : ∀ k, o + k < q.length → q.getD (o + k) 0#8 = (q.drop o).getD k 0#8 := fun k hk => by rw [List.getD_eq_getElem?_getD, List.getD_eq_getElem?_getD, List.getElem?_drop]
  have hl : 2 ≤ (q.drop o).length := by rw [List.length_drop]; omega
  rw [show q.getD o 0#8 = q.getD (o + 0) 0#8 from rfl, g 0 (by omega), g 1 (by omega)]
  match q.drop o, hl with
  | a :: b :: r, _ => rfl
theorem four_le (v : BitVec 32) : four v = le v 4 := by rw [le4]; rfl
theorem two_le (d : BitVec 16) : two d = le (d.setWidth 32) 2 := by rw [le2]; rfl
theorem lv_num (q : List (BitVec 8)) (o : Nat) (h : o + 4 ≤ q.length) : lv o q = num ((q.drop o).take 4) := by rw [piece4 q o h]; exact num4w _ _ _ _
theorem sv_num (q : List (BitVec 8)) (o : Nat) (h : o + 2 ≤ q.length) : sv o q = (num ((q.drop o).take 2)).setWidth 16 := by rw [piece2 q o h, num2]; rfl
theorem two_or (x y : BitVec 8) : two (x.setWidth 16 ||| (y.setWidth 16) <<< 8) = [x, y] := by
  obtain ⟨h1, h2⟩ := (halves (x.setWidth 16 ||| (y.setWidth 16) <<< 8) x y).2 rfl
  unfold two; rw [h1, h2]
theorem low16 (a b : BitVec 16) : (a.setWidth 32 ||| (b.setWidth 32) <<< 16).setWidth 16 = a := by
  apply BitVec.eq_of_toNat_eq
  rw [BitVec.toNat_setWidth, num22]
  have := a.isLt; omega
theorem high16 (a b : BitVec 16) : ((a.setWidth 32 ||| (b.setWidth 32) <<< 16) >>> 16).setWidth 16 = b := by
  apply BitVec.eq_of_toNat_eq
  rw [BitVec.toNat_setWidth, BitVec.toNat_ushiftRight, num22, Nat.shiftRight_eq_div_pow]
  have := a.isLt; have := b.isLt; omega
theorem le_lv (q : List (BitVec 8)) (o : Nat) (h : o + 4 ≤ q.length) : le (lv o q) 4 = (q.drop o).take 4 := by
  rw [← four_le, piece4 q o h]
  unfold four lv
  rw [low16, high16]
  unfold sv
  rw [two_or, two_or]; rfl
end Go.Proofs.Ytbdpocbnkgckhaa

/- The program's label as bytes. -/
set_option maxRecDepth 4000
namespace Go.Proofs.Ytbdpocbnkgckhaa
open Go Go.RowKit
set_option maxHeartbeats 800000 in
theorem bodyof_any (L : Lab) (w : World) : Calls Try.prog 47 #[.agg (labCells L)] w fun e w' => ∃ v, e = .returned v ∧ Item w' v (labBody L) ∧ Below w.heap.size w w' := by
  have HBD : Hid (labBody L = four L.e ++ four L.s ++ four L.n ++ two L.d ++ two L.l) := Lib.hid (by unfold labBody; rw [four_le, four_le, four_le, two_le, two_le])
  have HLL := Lib.hid (length_labBody L)
  have HS := St.nil w noF
  go_enter Try.func47, Try.ntmps47
  go_upto_region 2 with (first | ((with_reducible refine wpList_plain ?_ ?_); exact rfl; intro KK hKK; refine wp_st_box HS 46 (.tmp 0) rfl _ rfl (labCells L) (rfl) (fun g1 W1 HSx => hKK _ _ ?_); clear hKK KK HS; have HS : St w noF [⟨g1, 46, labCells L⟩] W1 := HSx; clear HSx))
  obtain ⟨B0, hB0⟩ : ∃ B0, W1.heap.size = B0 := ⟨_, rfl⟩
  have HB0 := Lib.hid hB0
  have HSW := Lib.hid HS
  have c0 : W1.cell? ⟨g1, 0, none⟩ = some (.int .u32 (wd L.e)) := (HS.row 0 rfl).get rfl
  have C := applong_any B0 [] L.e (.slice none 0 0) W1 (World.ownsRow_nil _ _ _ _) (Nat.le_of_eq hB0.symm) (by decide)
  have BB : Hid (Below B0 W1 W1) := Lib.hid (Below.refl _ _)
  clear HS hB0
  go_wp2_with fail
  refine C.mono ?_
  rintro e w1 ⟨v1, rfl, h1, b1⟩
  clear C c0
  have BBx := Lib.hid (BB.out.trans b1)
  clear BB b1
  have BB := BBx
  clear BBx
  have HS0 := HSW.out.same (by rw [HB0.out]; exact BB.out)
  have c0 : w1.cell? ⟨g1, 1, none⟩ = some (.int .u32 (wd L.s)) := (HS0.row 0 rfl).get rfl
  have C := applong_any B0 (four L.e) L.s v1 w1 h1 (by rw [← HB0.out]; exact BB.out.size) (by simp [four, two])
  clear h1 HS0
  go_wp2_with fail
  refine C.mono ?_
  rintro e w2 ⟨v2, rfl, h1, b1⟩
  clear C c0
  have BBx := Lib.hid (BB.out.trans b1)
  clear BB b1
  have BB := BBx
  clear BBx
  have HS1 := HSW.out.same (by rw [HB0.out]; exact BB.out)
  have c0 : w2.cell? ⟨g1, 2, none⟩ = some (.int .u32 (wd L.n)) := (HS1.row 0 rfl).get rfl
  have C := applong_any B0 (four L.e ++ four L.s) L.n v2 w2 h1 (by rw [← HB0.out]; exact BB.out.size) (by simp [four, two])
  clear h1 HS1
  go_wp2_with fail
  refine C.mono ?_
  rintro e w3 ⟨v3, rfl, h1, b1⟩
  clear C c0
  have BBx := Lib.hid (BB.out.trans b1)
  clear BB b1
  have BB := BBx
  clear BBx
  have HS2 := HSW.out.same (by rw [HB0.out]; exact BB.out)
  have c0 : w3.cell? ⟨g1, 3, none⟩ = some (.int .u16 (hd L.d)) := (HS2.row 0 rfl).get rfl
  have C := appshort_any B0 (four L.e ++ four L.s ++ four L.n) L.d v3 w3 h1 (by rw [← HB0.out]; exact BB.out.size) (by simp [four, two])
  clear h1 HS2
  go_wp2_with fail
  refine C.mono ?_
  rintro e w4 ⟨v4, rfl, h1, b1⟩
  clear C c0
  have BBx := Lib.hid (BB.out.trans b1)
  clear BB b1
  have BB := BBx
  clear BBx
  have HS3 := HSW.out.same (by rw [HB0.out]; exact BB.out)
  have c0 : w4.cell? ⟨g1, 4, none⟩ = some (.int .u16 (hd L.l)) := (HS3.row 0 rfl).get rfl
  have C := appshort_any B0 (four L.e ++ four L.s ++ four L.n ++ two L.d) L.l v4 w4 h1 (by rw [← HB0.out]; exact BB.out.size) (by simp [four, two])
  clear h1 HS3
  go_wp2_with fail
  refine C.mono ?_
  rintro e w5 ⟨v5, rfl, h1, b1⟩
  clear C c0
  have BBx := Lib.hid (BB.out.trans b1)
  clear BB b1
  have BB := BBx
  clear BBx
  have HO : Hid (w5.ownsRow B0 5 1 v5 (labBody L).length (bytesV (labBody L))) := Lib.hid (by rw [HLL.out, HBD.out]; exact h1)
  clear h1
  go_wp2_with fail
  go_ret
  exact ⟨_, rfl, own_item HO.out (by rw [HLL.out]; decide), HSW.out.below.trans (BB.out.mono (by rw [← HB0.out]; exact HSW.out.below.size))⟩
end Go.Proofs.Ytbdpocbnkgckhaa

/- The program's label of a sector's body; a label's sector. -/
set_option maxRecDepth 4000
namespace Go.Proofs.Ytbdpocbnkgckhaa
open Go Go.RowKit
theorem lab_lv (R : List (BitVec 8)) (h : R.length = 30) : (⟨lv 1 R, lv 5 R, lv 9 R, sv 13 R, sv 15 R⟩ : Lab) = labOf (R.drop 1) := by
  unfold labOf
  rw [lv_num R 1 (by omega), lv_num R 5 (by omega), lv_num R 9 (by omega), sv_num R 13 (by omega), sv_num R 15 (by omega), List.drop_drop, List.drop_drop, List.drop_drop, List.drop_drop]
set_option maxRecDepth 20000 in
set_option maxHeartbeats 800000 in
theorem frombody_any (g : Nat) (R : List (BitVec 8)) (w : World) (hR : Row w g 77 (bs R)) (hl : R.length = 30) :
    Calls Try.prog 28 #[.slice (some ⟨g, 1, none⟩) 29 29] w fun e w' => e = .returned (.agg (labCells (labOf (R.drop 1)))) ∧ Below w.heap.size w w' := by
  have HRL := Lib.hid hl
  have HLV := Lib.hid (lab_lv R hl)
  have HR := Lib.hid hR
  have hz := zeros_lab
  have HS := St.nil w noF
  clear hR hl
  go_enter Try.func28, Try.ntmps28
  go_upto_region 1 with (first | ((with_reducible refine wpList_plain ?_ ?_); exact rfl; intro KK hKK; refine wp_st_alloc HS 46 (labCells lab0) rfl (.agg (labCells lab0)) (by kernel_rfl) (rfl) (fun g2 W1 HSx => hKK _ _ ?_); clear hKK KK HS; have HS : St w noF [⟨g2, 46, labCells lab0⟩] W1 := HSx; clear HSx))
  clear hz
  have hF0 : Wl [fun W => St w noF [⟨g2, 46, labCells lab0⟩] W ∧ Row W g 77 (bs R), fun W => St w noF [⟨g2, 46, labCells (labOf (R.drop 1))⟩] W] 0 W1.drew := ⟨HS.drew, (HR.out.call HS.below).drew⟩
  clear HS
  refine wp_region_phs [is (.slice (some ⟨g, 1, none⟩) 29 29), is (.slice (some ⟨g, 1, none⟩) 29 29), is (.int .u32 (wd (lv 1 R))), is (.slice (some ⟨g, 1, none⟩) 29 29), is (.slice (some ⟨g, 5, none⟩) 25 25), is (.int .u32 (wd (lv 5 R))), is (.slice (some ⟨g, 1, none⟩) 29 29), is (.slice (some ⟨g, 9, none⟩) 21 21), is (.int .u32 (wd (lv 9 R))), is (.slice (some ⟨g, 1, none⟩) 29 29), is (.slice (some ⟨g, 13, none⟩) 17 17), is (.int .u16 (hd (sv 13 R))), is (.slice (some ⟨g, 1, none⟩) 29 29), is (.slice (some ⟨g, 15, none⟩) 15 15), is (.int .u16 (hd (sv 15 R))), is (.agg (labCells (labOf (R.drop 1)))), anyV] [true, true, true, true, true, true, true, true, true, true, true, true, true, true, true, true, true] [(fun W => St w noF [⟨g2, 46, labCells lab0⟩] W ∧ Row W g 77 (bs R)), (fun W => St w noF [⟨g2, 46, labCells (labOf (R.drop 1))⟩] W)] [false, false, false, false, false, false, false, false, false, false, false, false, false, false, false, false, true] [some 0, some 0, some 0, some 0, some 0, some 0, some 0, some 0, some 0, some 0, some 0, some 0, some 0, some 0, some 0, some 0, some 0] [some 3, some 4, some 5, some 6, some 7, some 8, some 9, some 10, some 11, some 12, some 13, some 14, some 15, some 16, some 17, some 18, none] 17 1 (fun _ => true) rfl rfl (by kernel_rfl) (by kernel_rfl) (by kernel_rfl) (by kernel_rfl) ?_ ?_ ?_ ?_ ?_ ?_
  · repeat first | exact wok_nil | refine wok_cons (by first | exact fun _ _ h k => ⟨h.1.same k, h.2.call k⟩ | exact fun _ _ h k => h.same k) ?_
  · repeat first | exact vok_nil | refine vok_rig (by first | exact fun _ _ _ h => h) ?_ | refine vok_soft (by first | exact fun _ _ _ h _ => h) ?_
  · exact hF0
  · repeat first | exact all_end (by decide) | refine all_cons (by first | exact rfl | exact ⟨rfl, fun _ _ h => Or.inl h⟩ | exact ⟨rfl, fun _ _ h => Or.inr ⟨h, rfl⟩⟩) ?_
  · refine allp_mild 0 rfl rfl rfl (fun a x W hout hin hP => ?_) ?_
    · have e0 : a.tmps[0]? = some (.slice (some ⟨g, 1, none⟩) 29 29) := (hout 0 (by kernel_rfl)).trans rfl
      exact does_move rfl e0 ⟨Same.refl _, rfl⟩
    refine allp_mild 0 rfl rfl rfl (fun a x W hout hin hP => ?_) ?_
    · have e3 := hin.is 0 3 (by kernel_rfl) (by decide) (by kernel_rfl) (by kernel_rfl) _ rfl
      clear hin hout
      intro K Q hK
      go_simp
      exact hK _ _ ⟨Same.refl _, rfl⟩
    refine allp_mild 0 rfl rfl rfl (fun a x W hout hin hP => ?_) ?_
    · have e4 := hin.is 1 4 (by kernel_rfl) (by decide) (by kernel_rfl) (by kernel_rfl) _ rfl
      have C := long_any g 1 29 29 77 R W hP.2 (by rw [HRL.out]; decide) (by decide) (Nat.le_refl _)
      clear hP
      clear hin hout
      intro K Q hK
      go_simp
      refine C.mono ?_
      rintro e W' ⟨rfl, hb⟩
      exact hK _ _ ⟨hb, rfl⟩
    refine allp_mild 0 rfl rfl rfl (fun a x W hout hin hP => ?_) ?_
    · have e0 : a.tmps[0]? = some (.slice (some ⟨g, 1, none⟩) 29 29) := (hout 0 (by kernel_rfl)).trans rfl
      exact does_move rfl e0 ⟨Same.refl _, rfl⟩
    refine allp_mild 0 rfl rfl rfl (fun a x W hout hin hP => ?_) ?_
    · have e6 := hin.is 3 6 (by kernel_rfl) (by decide) (by kernel_rfl) (by kernel_rfl) _ rfl
      clear hin hout
      intro K Q hK
      go_simp
      exact hK _ _ ⟨Same.refl _, rfl⟩
    refine allp_mild 0 rfl rfl rfl (fun a x W hout hin hP => ?_) ?_
    · have e7 := hin.is 4 7 (by kernel_rfl) (by decide) (by kernel_rfl) (by kernel_rfl) _ rfl
      have C := long_any g 5 25 25 77 R W hP.2 (by rw [HRL.out]; decide) (by decide) (Nat.le_refl _)
      clear hP
      clear hin hout
      intro K Q hK
      go_simp
      refine C.mono ?_
      rintro e W' ⟨rfl, hb⟩
      exact hK _ _ ⟨hb, rfl⟩
    refine allp_mild 0 rfl rfl rfl (fun a x W hout hin hP => ?_) ?_
    · have e0 : a.tmps[0]? = some (.slice (some ⟨g, 1, none⟩) 29 29) := (hout 0 (by kernel_rfl)).trans rfl
      exact does_move rfl e0 ⟨Same.refl _, rfl⟩
    refine allp_mild 0 rfl rfl rfl (fun a x W hout hin hP => ?_) ?_
    · have e9 := hin.is 6 9 (by kernel_rfl) (by decide) (by kernel_rfl) (by kernel_rfl) _ rfl
      clear hin hout
      intro K Q hK
      go_simp
      exact hK _ _ ⟨Same.refl _, rfl⟩
    refine allp_mild 0 rfl rfl rfl (fun a x W hout hin hP => ?_) ?_
    · have e10 := hin.is 7 10 (by kernel_rfl) (by decide) (by kernel_rfl) (by kernel_rfl) _ rfl
      have C := long_any g 9 21 21 77 R W hP.2 (by rw [HRL.out]; decide) (by decide) (Nat.le_refl _)
      clear hP
      clear hin hout
      intro K Q hK
      go_simp
      refine C.mono ?_
      rintro e W' ⟨rfl, hb⟩
      exact hK _ _ ⟨hb, rfl⟩
    refine allp_mild 0 rfl rfl rfl (fun a x W hout hin hP => ?_) ?_
    · have e0 : a.tmps[0]? = some (.slice (some ⟨g, 1, none⟩) 29 29) := (hout 0 (by kernel_rfl)).trans rfl
      exact does_move rfl e0 ⟨Same.refl _, rfl⟩
    refine allp_mild 0 rfl rfl rfl (fun a x W hout hin hP => ?_) ?_
    · have e12 := hin.is 9 12 (by kernel_rfl) (by decide) (by kernel_rfl) (by kernel_rfl) _ rfl
      clear hin hout
      intro K Q hK
      go_simp
      exact hK _ _ ⟨Same.refl _, rfl⟩
    refine allp_mild 0 rfl rfl rfl (fun a x W hout hin hP => ?_) ?_
    · have e13 := hin.is 10 13 (by kernel_rfl) (by decide) (by kernel_rfl) (by kernel_rfl) _ rfl
      have C := short_any g 13 17 17 77 R W hP.2 (by rw [HRL.out]; decide) (by decide)
      clear hP
      clear hin hout
      intro K Q hK
      go_simp
      refine C.mono ?_
      rintro e W' ⟨rfl, hb⟩
      exact hK _ _ ⟨hb, rfl⟩
    refine allp_mild 0 rfl rfl rfl (fun a x W hout hin hP => ?_) ?_
    · have e0 : a.tmps[0]? = some (.slice (some ⟨g, 1, none⟩) 29 29) := (hout 0 (by kernel_rfl)).trans rfl
      exact does_move rfl e0 ⟨Same.refl _, rfl⟩
    refine allp_mild 0 rfl rfl rfl (fun a x W hout hin hP => ?_) ?_
    · have e15 := hin.is 12 15 (by kernel_rfl) (by decide) (by kernel_rfl) (by kernel_rfl) _ rfl
      clear hin hout
      intro K Q hK
      go_simp
      exact hK _ _ ⟨Same.refl _, rfl⟩
    refine allp_mild 0 rfl rfl rfl (fun a x W hout hin hP => ?_) ?_
    · have e16 := hin.is 13 16 (by kernel_rfl) (by decide) (by kernel_rfl) (by kernel_rfl) _ rfl
      have C := short_any g 15 15 15 77 R W hP.2 (by rw [HRL.out]; decide) (by decide)
      clear hP
      clear hin hout
      intro K Q hK
      go_simp
      refine C.mono ?_
      rintro e W' ⟨rfl, hb⟩
      exact hK _ _ ⟨hb, rfl⟩
    refine allp_mild 0 rfl rfl rfl (fun a x W hout hin hP => ?_) ?_
    · have e5 := hin.is 2 5 (by kernel_rfl) (by decide) (by kernel_rfl) (by kernel_rfl) _ rfl
      have e8 := hin.is 5 8 (by kernel_rfl) (by decide) (by kernel_rfl) (by kernel_rfl) _ rfl
      have e11 := hin.is 8 11 (by kernel_rfl) (by decide) (by kernel_rfl) (by kernel_rfl) _ rfl
      have e14 := hin.is 11 14 (by kernel_rfl) (by decide) (by kernel_rfl) (by kernel_rfl) _ rfl
      have e17 := hin.is 14 17 (by kernel_rfl) (by decide) (by kernel_rfl) (by kernel_rfl) _ rfl
      rw [← HLV.out]
      generalize lv 1 R = x1 at *
      generalize lv 5 R = x2 at *
      generalize lv 9 R = x3 at *
      generalize sv 13 R = x4 at *
      generalize sv 15 R = x5 at *
      clear hP
      clear hin hout
      intro K Q hK
      go_simp
      exact hK _ _ ⟨Same.refl _, rfl⟩
    refine allp_wild 0 rfl rfl rfl (fun a x W hout hin hP => ?_) ?_
    · have e2 : a.tmps[2]? = some (.pointer (some ⟨g2, 0, none⟩)) := (hout 2 (by kernel_rfl)).trans rfl
      have e18 := hin.is 15 18 (by kernel_rfl) (by decide) (by kernel_rfl) (by kernel_rfl) _ rfl
      clear hin hout
      intro K Q hK
      exact wp_st_store hP.1 0 0 46 (.tmp 2) (.tmp 18) rfl rfl (eval_of_get e2) (.agg (labCells (labOf (R.drop 1)))) (eval_of_get e18) (by exact size_lab) (by exact Nat.le_refl 5) (by exact one_lab _) (labCells (labOf (R.drop 1))) (spl_agg _ _ _ rfl rfl) (fun W' HSx => hK _ _ ⟨HSx, trivial⟩)
    exact all_end (by decide)
  · intro x W hP hV
    have HS : St w noF [⟨g2, 46, labCells (labOf (R.drop 1))⟩] W := hP
    clear hP hV
    simp only [putL, Act.put, List.setIfInBounds_toArray, List.set_cons_succ, List.set_cons_zero]
    refine wpAnyH_done (by kernel_rfl) ?_ _
    go_wp2_with fail
    exact bodyPost_ret (v := .agg (labCells (labOf (R.drop 1)))) (results_cell_row Try.results28 _ _ g2 46 (labCells (labOf (R.drop 1))) (0, 0) _ rfl (HS.row 0 rfl) Try.underlying46 rfl (by exact size_lab)) rfl ⟨rfl, HS.below⟩
set_option maxHeartbeats 800000 in
theorem labenc_any (L : Lab) (w : World) : Calls Try.prog 29 #[.agg (labCells L)] w fun e w' => e = .returned (.agg (bs (labB L))) ∧ Below w.heap.size w w' := by
  have hz := zeros_blk
  obtain ⟨B, hB⟩ : ∃ B, labB L = B := ⟨_, rfl⟩
  have HBL : Hid (B.length = 32) := Lib.hid (by rw [← hB]; exact length_labB L)
  have HEN : Hid (∀ (v : Value) (W : World), Item W v (labBody L) → Calls Try.prog 46 #[.int .u8 76, v] W fun e w' => e = .returned (.tuple #[.agg (bs B), .int .i64 0]) ∧ Below W.heap.size W w') := Lib.hid (fun v W hi => by
    have := sealOps.enc 0x4c#8 (labBody L) v W hi
    have hb : encBad 0x4c#8 (labBody L) = false := by unfold encBad; rw [length_labBody]; rfl
    rw [encB_good hb, encE_good hb, show sealedB 0x4c#8 (labBody L) = B from hB] at this
    exact this)
  rw [hB]
  clear hB
  have HS := St.nil w noF
  go_enter Try.func29, Try.ntmps29
  go_wp2_with (first | ((with_reducible refine wpList_plain ?_ ?_); exact rfl; intro KK hKK; refine wp_st_box HS 46 (.tmp 0) rfl _ rfl (labCells L) (rfl) (fun g1 W1 HSx => hKK _ _ ?_); clear hKK KK HS; have HS : St w noF [⟨g1, 46, labCells L⟩] W1 := HSx; clear HSx) | ((with_reducible refine wpList_plain ?_ ?_); exact rfl; intro KK hKK; refine wp_st_alloc HS 37 (bs (blk 0#8)) rfl (.agg (bs (blk 0#8))) (by kernel_rfl) (rfl) (fun g2 W2 HSx => hKK _ _ ?_); clear hKK KK HS; have HS : St w noF [⟨g1, 46, labCells L⟩, ⟨g2, 37, bs (blk 0#8)⟩] W2 := HSx; clear HSx) | ((with_reducible refine wpList_plain ?_ ?_); exact rfl; intro KK hKK; refine wp_st_load HS 0 0 46 (.tmp 1) rfl rfl rfl (labCells L) (slab_whole _) _ Try.underlying46 rfl (by exact size_lab) (hKK _ _ ?_); clear hKK KK))
  refine (bodyof_any L _).mono ?_
  rintro e w1 ⟨v, rfl, hI, hb1⟩
  have HSx := HS.same hb1
  clear HS hb1
  have HS := HSx
  clear HSx
  have C := HEN.out v w1 hI
  clear hI
  go_wp2_with fail
  refine C.mono ?_
  rintro e w2 ⟨rfl, hb2⟩
  have HSx := HS.same hb2
  clear HS hb2 C
  have HS := HSx
  clear HSx
  go_wp2_with (first | ((with_reducible refine wpList_plain ?_ ?_); exact rfl; intro KK hKK; refine wp_st_alloc HS 37 (bs (blk 0#8)) rfl (.agg (bs (blk 0#8))) (by kernel_rfl) (rfl) (fun g3 W11 HSx => hKK _ _ ?_); clear hKK KK HS; have HS : St w noF [⟨g1, 46, labCells L⟩, ⟨g2, 37, bs (blk 0#8)⟩, ⟨g3, 37, bs (blk 0#8)⟩] W11 := HSx; clear HSx) | ((with_reducible refine wpList_plain ?_ ?_); exact rfl; intro KK hKK; refine wp_st_store HS 2 0 37 (.tmp 3) (.tmp 9) rfl rfl rfl (.agg (bs B)) rfl (by exact by rw [show Value.cells (.agg (bs B)) = bs B from rfl, size_bs, HBL.out]; exact size_blk) (by rw [Nat.zero_add]; exact Nat.le_of_eq (Eq.symm (show (bs (blk 0#8)).size = (bs B).size by rw [size_bs, size_bs, HBL.out, length_blk]))) (by first | exact one_bs _ | exact one_lab _) (bs B) (spl_agg _ _ _ rfl (show (bs (blk 0#8)).size = (bs B).size by rw [size_bs, size_bs, HBL.out, length_blk])) (fun W12 HSx => hKK _ _ ?_); clear hKK KK HS; have HS : St w noF [⟨g1, 46, labCells L⟩, ⟨g2, 37, bs (blk 0#8)⟩, ⟨g3, 37, bs B⟩] W12 := HSx; clear HSx) | ((with_reducible refine wpList_plain ?_ ?_); exact rfl; intro KK hKK; refine wp_st_load HS 2 0 37 (.tmp 3) rfl rfl rfl (bs B) (slab_whole _) _ Try.underlying37 rfl (by rw [size_bs, HBL.out]; exact size_blk) (hKK _ _ ?_); clear hKK KK) | ((with_reducible refine wpList_plain ?_ ?_); exact rfl; intro KK hKK; refine wp_st_store HS 1 0 37 (.tmp 2) (.tmp 11) rfl rfl rfl (.agg (bs B)) rfl (by exact by rw [show Value.cells (.agg (bs B)) = bs B from rfl, size_bs, HBL.out]; exact size_blk) (by rw [Nat.zero_add]; exact Nat.le_of_eq (Eq.symm (show (bs (blk 0#8)).size = (bs B).size by rw [size_bs, size_bs, HBL.out, length_blk]))) (by first | exact one_bs _ | exact one_lab _) (bs B) (spl_agg _ _ _ rfl (show (bs (blk 0#8)).size = (bs B).size by rw [size_bs, size_bs, HBL.out, length_blk])) (fun W13 HSx => hKK _ _ ?_); clear hKK KK HS; have HS : St w noF [⟨g1, 46, labCells L⟩, ⟨g2, 37, bs B⟩, ⟨g3, 37, bs B⟩] W13 := HSx; clear HSx))
  exact bodyPost_ret (v := .agg (bs B)) (results_cell_row Try.results29 _ _ g2 37 (bs B) (0, 0) _ rfl (HS.row 1 rfl) Try.underlying37 rfl (by rw [size_bs, HBL.out]; exact size_blk)) rfl ⟨rfl, HS.below⟩
end Go.Proofs.Ytbdpocbnkgckhaa

/- The program's label of a sector, or that it is none. -/
set_option maxRecDepth 4000
namespace Go.Proofs.Ytbdpocbnkgckhaa
open Go Go.RowKit
theorem lab_zero {b : List (BitVec 8)} (h : b = blk 0#8) : Ending.returned (Value.tuple #[.agg (labCells lab0), .int .i64 0]) = .returned (.tuple #[.agg (labCells (decLab b)), .int .i64 (decLabE b)]) := by
  have h : b = List.replicate 32 0#8 := h
  unfold decLab decLabE; rw [if_pos h, if_pos h]
theorem lab_bad {b : List (BitVec 8)} (h : ¬ b = blk 0#8) (k : labIs b = false) : Ending.returned (Value.tuple #[.agg (labCells lab0), .int .i64 11]) = .returned (.tuple #[.agg (labCells (decLab b)), .int .i64 (decLabE b)]) := by
  have h : ¬ b = List.replicate 32 0#8 := h
  unfold decLab decLabE; rw [if_neg h, if_neg h, k]; rfl
theorem lab_good {b : List (BitVec 8)} (h : ¬ b = blk 0#8) (k : labIs b = true) : Ending.returned (Value.tuple #[.agg (labCells (labOf (bodyOf b))), .int .i64 0]) = .returned (.tuple #[.agg (labCells (decLab b)), .int .i64 (decLabE b)]) := by
  have h : ¬ b = List.replicate 32 0#8 := h
  unfold decLab decLabE; rw [if_neg h, if_neg h, k]; rfl
theorem drop1_30 (b : List (BitVec 8)) : (b.take 30).drop 1 = bodyOf b := by
  unfold bodyOf
  rw [List.drop_take]
attribute [local go_sem high] eql_blk
set_option maxRecDepth 20000 in
set_option maxHeartbeats 1200000 in
theorem labdec_any (b : List (BitVec 8)) (w : World) (hb : b.length = 32) :
    Calls Try.prog 18 #[.agg (bs b)] w fun e w' => e = .returned (.tuple #[.agg (labCells (decLab b)), .int .i64 (decLabE b)]) ∧ Below w.heap.size w w' := by
  have HBL := Lib.hid hb
  have hz := zeros_blk
  have hzl := zeros_lab
  have q0 := eql_blk b (blk 0#8) hb (length_blk _)
  have HS := St.nil w noF
  by_cases h0 : b = blk 0#8
  · have HRES := Lib.hid (lab_zero h0)
    rw [decide_eq_true h0] at q0
    clear h0 hb
    go_enter Try.func18, Try.ntmps18
    go_upto_region 1 with (first | ((with_reducible refine wpList_plain ?_ ?_); exact rfl; intro KK hKK; refine wp_st_box HS 37 (.tmp 0) rfl _ rfl (bs b) (rfl) (fun g1 W1 HSx => hKK _ _ ?_); clear hKK KK HS; have HS : St w noF [⟨g1, 37, bs b⟩] W1 := HSx; clear HSx) | ((with_reducible refine wpList_plain ?_ ?_); exact rfl; intro KK hKK; refine wp_st_alloc HS 46 (labCells lab0) rfl (.agg (labCells lab0)) (by kernel_rfl) (rfl) (fun g2 W2 HSx => hKK _ _ ?_); clear hKK KK HS; have HS : St w noF [⟨g1, 37, bs b⟩, ⟨g2, 46, labCells lab0⟩] W2 := HSx; clear HSx))
    have qz := q0 W2
    clear q0
    go_wp2_with (first | (first | ((with_reducible refine wpList_plain ?_ ?_); exact rfl; intro KK hKK; refine wp_st_load HS 0 0 37 (.tmp 1) rfl rfl rfl (bs b) (slab_whole _) _ Try.underlying37 rfl (by rw [size_bs, HBL.out]; exact size_blk) (hKK _ _ ?_); clear hKK KK) | ((with_reducible refine wpList_plain ?_ ?_); exact rfl; intro KK hKK; refine wp_st_store HS 1 0 46 (.tmp 2) (.tmp 10) rfl rfl rfl (.agg #[.int .u32 0, .int .u32 0, .int .u32 0, .int .u16 0, .int .u16 0]) rfl (by exact size_lab) (by exact Nat.le_refl 5) (by exact one_lab lab0) (labCells lab0) (spl_agg _ _ _ zeros_lab rfl) (fun W3 HSx => hKK _ _ ?_); clear hKK KK HS; have HS : St w noF [⟨g1, 37, bs b⟩, ⟨g2, 46, labCells lab0⟩] W3 := HSx; clear HSx)))
    exact bodyPost_ret (v := .tuple #[.agg (labCells lab0), .int .i64 0]) (results_cell_tmp Try.results18 _ _ g2 46 (labCells lab0) (0, 0) _ rfl (HS.row 1 rfl) Try.underlying46 rfl (by exact size_lab)) rfl ⟨HRES.out, HS.below⟩
  rw [decide_eq_false h0] at q0
  cases hk : decOk b with
  | false =>
    have HRES := Lib.hid (lab_bad h0 (by unfold labIs; rw [hk]; rfl))
    obtain ⟨R, hRR⟩ : ∃ R, zer 30 = R := ⟨_, rfl⟩
    have HRL : Hid (R.length = 30) := Lib.hid (by rw [← hRR]; exact length_zer 30)
    have HC : Hid (∀ W, Calls Try.prog 27 #[.agg (bs b)] W fun e w' => e = .returned (.tuple #[.agg (bs R), .int .i64 11]) ∧ Below W.heap.size W w') := Lib.hid (fun W => by
      have := sealOps.dec b W hb
      rw [show decR b = R by rw [← hRR]; unfold decR; rw [hk]; rfl, show decE b = 11 by unfold decE; rw [hk]; rfl] at this
      exact this)
    obtain ⟨M, hM⟩ : ∃ M, labOf (R.drop 1) = M := ⟨_, rfl⟩
    have HMR := Lib.hid hM
    clear hk h0 hb hRR hM
    go_enter Try.func18, Try.ntmps18
    go_upto_region 1 with (first | ((with_reducible refine wpList_plain ?_ ?_); exact rfl; intro KK hKK; refine wp_st_box HS 37 (.tmp 0) rfl _ rfl (bs b) (rfl) (fun g1 W1 HSx => hKK _ _ ?_); clear hKK KK HS; have HS : St w noF [⟨g1, 37, bs b⟩] W1 := HSx; clear HSx) | ((with_reducible refine wpList_plain ?_ ?_); exact rfl; intro KK hKK; refine wp_st_alloc HS 46 (labCells lab0) rfl (.agg (labCells lab0)) (by kernel_rfl) (rfl) (fun g2 W2 HSx => hKK _ _ ?_); clear hKK KK HS; have HS : St w noF [⟨g1, 37, bs b⟩, ⟨g2, 46, labCells lab0⟩] W2 := HSx; clear HSx))
    have qz := q0 W2
    clear q0
    go_upto_region 3 with (first | ((with_reducible refine wpList_plain ?_ ?_); exact rfl; intro KK hKK; refine wp_st_load HS 0 0 37 (.tmp 1) rfl rfl rfl (bs b) (slab_whole _) _ Try.underlying37 rfl (by rw [size_bs, HBL.out]; exact size_blk) (hKK _ _ ?_); clear hKK KK))
    clear qz
    go_wp2_with (first | ((with_reducible refine wpList_plain ?_ ?_); exact rfl; intro KK hKK; refine wp_st_load HS 0 0 37 (.tmp 1) rfl rfl rfl (bs b) (slab_whole _) _ Try.underlying37 rfl (by rw [size_bs, HBL.out]; exact size_blk) (hKK _ _ ?_); clear hKK KK))
    refine (HC.out _).mono ?_
    rintro e w1 ⟨rfl, hb1⟩
    have HSx := HS.same hb1
    clear HS hb1
    have HS := HSx
    clear HSx
    go_upto_region 4 with (first | ((with_reducible refine wpList_plain ?_ ?_); exact rfl; intro KK hKK; refine wp_st_alloc HS 77 (bs (zer 30)) rfl (.agg (bs (zer 30))) (by kernel_rfl) (rfl) (fun g4 W11 HSx => hKK _ _ ?_); clear hKK KK HS; have HS : St w noF [⟨g1, 37, bs b⟩, ⟨g2, 46, labCells lab0⟩, ⟨g4, 77, bs (zer 30)⟩] W11 := HSx; clear HSx) | ((with_reducible refine wpList_plain ?_ ?_); exact rfl; intro KK hKK; refine wp_st_store HS 2 0 77 (.tmp 4) (.tmp 14) rfl rfl rfl (.agg (bs R)) rfl (by exact by rw [show Value.cells (.agg (bs R)) = bs R from rfl, size_bs, HRL.out]; exact size_sec) (by rw [Nat.zero_add]; exact Nat.le_of_eq (Eq.symm (show (bs (zer 30)).size = (bs R).size by rw [size_bs, size_bs, HRL.out, length_zer]))) (by first | exact one_bs _ | exact one_lab _) (bs R) (spl_agg _ _ _ rfl (show (bs (zer 30)).size = (bs R).size by rw [size_bs, size_bs, HRL.out, length_zer])) (fun W12 HSx => hKK _ _ ?_); clear hKK KK HS; have HS : St w noF [⟨g1, 37, bs b⟩, ⟨g2, 46, labCells lab0⟩, ⟨g4, 77, bs R⟩] W12 := HSx; clear HSx))
    have CF := frombody_any g4 R _ (HS.row 2 rfl) HRL.out
    rw [HMR.out] at CF
    go_wp2_with fail
    refine CF.mono ?_
    rintro e w3 ⟨rfl, hb3⟩
    have HSx := HS.same hb3
    clear HS hb3 CF
    have HS := HSx
    clear HSx
    go_upto_region 5 with (first | ((with_reducible refine wpList_plain ?_ ?_); exact rfl; intro KK hKK; refine wp_st_alloc HS 46 (labCells lab0) rfl (.agg (labCells lab0)) (by kernel_rfl) (rfl) (fun g6 W21 HSx => hKK _ _ ?_); clear hKK KK HS; have HS : St w noF [⟨g1, 37, bs b⟩, ⟨g2, 46, labCells lab0⟩, ⟨g4, 77, bs R⟩, ⟨g6, 46, labCells lab0⟩] W21 := HSx; clear HSx) | ((with_reducible refine wpList_plain ?_ ?_); exact rfl; intro KK hKK; refine wp_st_store HS 3 0 46 (.tmp 6) (.tmp 18) rfl rfl rfl (.agg (labCells M)) rfl (by exact size_lab) (by rw [Nat.zero_add]; exact Nat.le_of_eq (Eq.symm (rfl))) (by first | exact one_bs _ | exact one_lab _) (labCells M) (spl_agg _ _ _ rfl (rfl)) (fun W22 HSx => hKK _ _ ?_); clear hKK KK HS; have HS : St w noF [⟨g1, 37, bs b⟩, ⟨g2, 46, labCells lab0⟩, ⟨g4, 77, bs R⟩, ⟨g6, 46, labCells M⟩] W22 := HSx; clear HSx))
    have hF0 : Wl [fun W => St w noF [⟨g1, 37, bs b⟩, ⟨g2, 46, labCells lab0⟩, ⟨g4, 77, bs R⟩, ⟨g6, 46, labCells M⟩] W] 0 W22.drew := HS.drew
    clear HS
    refine wp_region_phs [is (.int .i64 11), is (.bool true), is (.bool true), is undef, is undef, is undef, is undef, is (.bool true)] [true, true, true, true, true, true, true, true] [(fun W => St w noF [⟨g1, 37, bs b⟩, ⟨g2, 46, labCells lab0⟩, ⟨g4, 77, bs R⟩, ⟨g6, 46, labCells M⟩] W)] [false, false, false, false, false, false, false, false] [some 0, some 0, some 0, some 0, some 0, some 0, some 0, some 0] [some 19, some 20, some 21, some 22, some 23, some 24, some 25, some 26] 8 0 (fun i => !([3, 4, 5, 6] : List Nat).contains i) rfl rfl (by kernel_rfl) (by kernel_rfl) (by kernel_rfl) (by kernel_rfl) ?_ ?_ ?_ ?_ ?_ ?_
    · repeat first | exact wok_nil | refine wok_cons (by first | exact fun _ _ h k => h.same k) ?_
    · repeat first | exact vok_nil | refine vok_rig (by first | exact fun _ _ _ h => h) ?_ | refine vok_soft (by first | exact fun _ _ _ h _ => h) ?_
    · exact hF0
    · repeat first | exact all_end (by decide) | refine all_cons (by first | exact rfl | exact ⟨rfl, fun _ _ h => Or.inl h⟩ | exact ⟨rfl, fun _ _ h => Or.inr ⟨h, rfl⟩⟩) ?_
    · refine allp_mild 0 rfl rfl rfl (fun a x W hout hin hP => ?_) ?_
      · have e5 : a.tmps[5]? = some (.int .i64 11) := (hout 5 (by kernel_rfl)).trans rfl
        exact does_move rfl e5 ⟨Same.refl _, rfl⟩
      refine allp_mild 0 rfl rfl rfl (fun a x W hout hin hP => ?_) ?_
      · have e19 := hin.is 0 19 (by kernel_rfl) (by decide) (by kernel_rfl) (by kernel_rfl) _ rfl
        clear hin hout
        intro K Q hK
        go_simp
        exact hK _ _ ⟨Same.refl _, rfl⟩
      refine allp_mild 0 rfl rfl rfl (fun a x W hout hin hP => ?_) ?_
      · have e20 := hin.is 1 20 (by kernel_rfl) (by decide) (by kernel_rfl) (by kernel_rfl) _ rfl
        exact does_move rfl e20 ⟨Same.refl _, rfl⟩
      refine allp_skip rfl rfl (fun _ => rfl) ?_
      refine allp_skip rfl rfl (fun _ => rfl) ?_
      refine allp_skip rfl rfl (fun _ => rfl) ?_
      refine allp_skip rfl rfl (fun _ => rfl) ?_
      refine allp_mild 0 rfl rfl rfl (fun a x W hout hin hP => ?_) ?_
      · have e21 := hin.is 2 21 (by kernel_rfl) (by decide) (by kernel_rfl) (by kernel_rfl) _ rfl
        have e25 := hin.is 6 25 (by kernel_rfl) (by decide) (by kernel_rfl) (by kernel_rfl) _ rfl
        exact does_pick rfl e21 ⟨Same.refl _, rfl⟩
      exact all_end (by decide)
    · intro x V hP hV
      have HS : St w noF [⟨g1, 37, bs b⟩, ⟨g2, 46, labCells lab0⟩, ⟨g4, 77, bs R⟩, ⟨g6, 46, labCells M⟩] V := hP
      have h7 : x 7 = .bool true := hV 7 (by decide) (.inl (by kernel_rfl))
      clear hP hV
      simp only [putL, Act.put, List.setIfInBounds_toArray, List.set_cons_succ, List.set_cons_zero, h7]
      refine wpAnyH_done (by kernel_rfl) ?_ _
      clear h7
      go_wp2_with (first | ((with_reducible refine wpList_plain ?_ ?_); exact rfl; intro KK hKK; refine wp_st_store HS 1 0 46 (.tmp 2) (.tmp 27) rfl rfl rfl (.agg #[.int .u32 0, .int .u32 0, .int .u32 0, .int .u16 0, .int .u16 0]) rfl (by exact size_lab) (by exact Nat.le_refl 5) (by exact one_lab lab0) (labCells lab0) (spl_agg _ _ _ zeros_lab rfl) (fun W41 HSx => hKK _ _ ?_); clear hKK KK HS; have HS : St w noF [⟨g1, 37, bs b⟩, ⟨g2, 46, labCells lab0⟩, ⟨g4, 77, bs R⟩, ⟨g6, 46, labCells M⟩] W41 := HSx; clear HSx))
      exact bodyPost_ret (v := .tuple #[.agg (labCells lab0), .int .i64 11]) (results_cell_tmp Try.results18 _ _ g2 46 (labCells lab0) (0, 0) _ rfl (HS.row 1 rfl) Try.underlying46 rfl (by exact size_lab)) rfl ⟨HRES.out, HS.below⟩
  | true =>
    obtain ⟨R, hRR⟩ : ∃ R, b.take 30 = R := ⟨_, rfl⟩
    have HRL : Hid (R.length = 30) := Lib.hid (by rw [← hRR]; simp [hb])
    have HC : Hid (∀ W, Calls Try.prog 27 #[.agg (bs b)] W fun e w' => e = .returned (.tuple #[.agg (bs R), .int .i64 0]) ∧ Below W.heap.size W w') := Lib.hid (fun W => by
      have := sealOps.dec b W hb
      rw [show decR b = R by rw [← hRR]; unfold decR; rw [if_pos hk], show decE b = 0 by unfold decE; rw [if_pos hk]] at this
      exact this)
    obtain ⟨M, hM⟩ : ∃ M, labOf (R.drop 1) = M := ⟨_, rfl⟩
    have HMR := Lib.hid hM
    have hMb : labOf (bodyOf b) = M := by rw [← hM, ← hRR, drop1_30]
    obtain ⟨B, hB⟩ : ∃ B, labB M = B := ⟨_, rfl⟩
    have HCE : Hid (∀ W, Calls Try.prog 29 #[.agg (labCells M)] W fun e w' => e = .returned (.agg (bs B)) ∧ Below W.heap.size W w') := Lib.hid (fun W => by rw [← hB]; exact labenc_any M W)
    have HQE := Lib.hid (fun W => eql_blk B b (by rw [← hB]; exact length_labB M) hb W)
    have hI : labIs b = decide (B = b) := by unfold labIs; rw [hk, Bool.true_and, hMb, hB]
    by_cases he : B = b
    case neg =>
      have HRES := Lib.hid (lab_bad h0 (by rw [hI, decide_eq_false he]))
      rw [decide_eq_false he] at HQE
      clear hk h0 hb hRR hM hMb hB hI he
      go_enter Try.func18, Try.ntmps18
      go_upto_region 1 with (first | ((with_reducible refine wpList_plain ?_ ?_); exact rfl; intro KK hKK; refine wp_st_box HS 37 (.tmp 0) rfl _ rfl (bs b) (rfl) (fun g1 W1 HSx => hKK _ _ ?_); clear hKK KK HS; have HS : St w noF [⟨g1, 37, bs b⟩] W1 := HSx; clear HSx) | ((with_reducible refine wpList_plain ?_ ?_); exact rfl; intro KK hKK; refine wp_st_alloc HS 46 (labCells lab0) rfl (.agg (labCells lab0)) (by kernel_rfl) (rfl) (fun g2 W2 HSx => hKK _ _ ?_); clear hKK KK HS; have HS : St w noF [⟨g1, 37, bs b⟩, ⟨g2, 46, labCells lab0⟩] W2 := HSx; clear HSx))
      have qz := q0 W2
      clear q0
      go_upto_region 3 with (first | ((with_reducible refine wpList_plain ?_ ?_); exact rfl; intro KK hKK; refine wp_st_load HS 0 0 37 (.tmp 1) rfl rfl rfl (bs b) (slab_whole _) _ Try.underlying37 rfl (by rw [size_bs, HBL.out]; exact size_blk) (hKK _ _ ?_); clear hKK KK))
      clear qz
      go_wp2_with (first | ((with_reducible refine wpList_plain ?_ ?_); exact rfl; intro KK hKK; refine wp_st_load HS 0 0 37 (.tmp 1) rfl rfl rfl (bs b) (slab_whole _) _ Try.underlying37 rfl (by rw [size_bs, HBL.out]; exact size_blk) (hKK _ _ ?_); clear hKK KK))
      refine (HC.out _).mono ?_
      rintro e w1 ⟨rfl, hb1⟩
      have HSx := HS.same hb1
      clear HS hb1
      have HS := HSx
      clear HSx
      go_upto_region 4 with (first | ((with_reducible refine wpList_plain ?_ ?_); exact rfl; intro KK hKK; refine wp_st_alloc HS 77 (bs (zer 30)) rfl (.agg (bs (zer 30))) (by kernel_rfl) (rfl) (fun g4 W11 HSx => hKK _ _ ?_); clear hKK KK HS; have HS : St w noF [⟨g1, 37, bs b⟩, ⟨g2, 46, labCells lab0⟩, ⟨g4, 77, bs (zer 30)⟩] W11 := HSx; clear HSx) | ((with_reducible refine wpList_plain ?_ ?_); exact rfl; intro KK hKK; refine wp_st_store HS 2 0 77 (.tmp 4) (.tmp 14) rfl rfl rfl (.agg (bs R)) rfl (by exact by rw [show Value.cells (.agg (bs R)) = bs R from rfl, size_bs, HRL.out]; exact size_sec) (by rw [Nat.zero_add]; exact Nat.le_of_eq (Eq.symm (show (bs (zer 30)).size = (bs R).size by rw [size_bs, size_bs, HRL.out, length_zer]))) (by first | exact one_bs _ | exact one_lab _) (bs R) (spl_agg _ _ _ rfl (show (bs (zer 30)).size = (bs R).size by rw [size_bs, size_bs, HRL.out, length_zer])) (fun W12 HSx => hKK _ _ ?_); clear hKK KK HS; have HS : St w noF [⟨g1, 37, bs b⟩, ⟨g2, 46, labCells lab0⟩, ⟨g4, 77, bs R⟩] W12 := HSx; clear HSx))
      have CF := frombody_any g4 R _ (HS.row 2 rfl) HRL.out
      rw [HMR.out] at CF
      go_wp2_with fail
      refine CF.mono ?_
      rintro e w3 ⟨rfl, hb3⟩
      have HSx := HS.same hb3
      clear HS hb3 CF
      have HS := HSx
      clear HSx
      go_upto_region 5 with (first | ((with_reducible refine wpList_plain ?_ ?_); exact rfl; intro KK hKK; refine wp_st_alloc HS 46 (labCells lab0) rfl (.agg (labCells lab0)) (by kernel_rfl) (rfl) (fun g6 W21 HSx => hKK _ _ ?_); clear hKK KK HS; have HS : St w noF [⟨g1, 37, bs b⟩, ⟨g2, 46, labCells lab0⟩, ⟨g4, 77, bs R⟩, ⟨g6, 46, labCells lab0⟩] W21 := HSx; clear HSx) | ((with_reducible refine wpList_plain ?_ ?_); exact rfl; intro KK hKK; refine wp_st_store HS 3 0 46 (.tmp 6) (.tmp 18) rfl rfl rfl (.agg (labCells M)) rfl (by exact size_lab) (by rw [Nat.zero_add]; exact Nat.le_of_eq (Eq.symm (rfl))) (by first | exact one_bs _ | exact one_lab _) (labCells M) (spl_agg _ _ _ rfl (rfl)) (fun W22 HSx => hKK _ _ ?_); clear hKK KK HS; have HS : St w noF [⟨g1, 37, bs b⟩, ⟨g2, 46, labCells lab0⟩, ⟨g4, 77, bs R⟩, ⟨g6, 46, labCells M⟩] W22 := HSx; clear HSx))
      have hF0 : Wl [fun W => St w noF [⟨g1, 37, bs b⟩, ⟨g2, 46, labCells lab0⟩, ⟨g4, 77, bs R⟩, ⟨g6, 46, labCells M⟩] W] 0 W22.drew := HS.drew
      clear HS
      refine wp_region_phs [is (.int .i64 0), is (.bool false), is (.bool false), is (.agg (labCells M)), is (.agg (bs B)), is (.agg (bs b)), is (.bool true), is (.bool true)] [true, true, true, true, true, true, true, true] [(fun W => St w noF [⟨g1, 37, bs b⟩, ⟨g2, 46, labCells lab0⟩, ⟨g4, 77, bs R⟩, ⟨g6, 46, labCells M⟩] W)] [false, false, false, false, false, false, false, false] [some 0, some 0, some 0, some 0, some 0, some 0, some 0, some 0] [some 19, some 20, some 21, some 22, some 23, some 24, some 25, some 26] 8 0 (fun _ => true) rfl rfl (by kernel_rfl) (by kernel_rfl) (by kernel_rfl) (by kernel_rfl) ?_ ?_ ?_ ?_ ?_ ?_
      · repeat first | exact wok_nil | refine wok_cons (by first | exact fun _ _ h k => h.same k) ?_
      · repeat first | exact vok_nil | refine vok_rig (by first | exact fun _ _ _ h => h) ?_ | refine vok_soft (by first | exact fun _ _ _ h _ => h) ?_
      · exact hF0
      · repeat first | exact all_end (by decide) | refine all_cons (by first | exact rfl | exact ⟨rfl, fun _ _ h => Or.inl h⟩ | exact ⟨rfl, fun _ _ h => Or.inr ⟨h, rfl⟩⟩) ?_
      · refine allp_mild 0 rfl rfl rfl (fun a x W hout hin hP => ?_) ?_
        · have e5 : a.tmps[5]? = some (.int .i64 0) := (hout 5 (by kernel_rfl)).trans rfl
          exact does_move rfl e5 ⟨Same.refl _, rfl⟩
        refine allp_mild 0 rfl rfl rfl (fun a x W hout hin hP => ?_) ?_
        · have e19 := hin.is 0 19 (by kernel_rfl) (by decide) (by kernel_rfl) (by kernel_rfl) _ rfl
          clear hin hout
          intro K Q hK
          go_simp
          exact hK _ _ ⟨Same.refl _, rfl⟩
        refine allp_mild 0 rfl rfl rfl (fun a x W hout hin hP => ?_) ?_
        · have e20 := hin.is 1 20 (by kernel_rfl) (by decide) (by kernel_rfl) (by kernel_rfl) _ rfl
          exact does_move rfl e20 ⟨Same.refl _, rfl⟩
        refine allp_mild 0 rfl rfl rfl (fun a x W hout hin hP => ?_) ?_
        · have e6 : a.tmps[6]? = some (.pointer (some ⟨g6, 0, none⟩)) := (hout 6 (by kernel_rfl)).trans rfl
          clear hin hout
          intro K Q hK
          exact wp_st_load hP 3 0 46 (.tmp 6) rfl rfl (eval_of_get e6) (labCells M) (slab_whole _) _ Try.underlying46 rfl (by exact size_lab) (hK _ _ ⟨Same.refl _, rfl⟩)
        refine allp_mild 0 rfl rfl rfl (fun a x W hout hin hP => ?_) ?_
        · have e22 := hin.is 3 22 (by kernel_rfl) (by decide) (by kernel_rfl) (by kernel_rfl) _ rfl
          have C := HCE.out W
          clear hP
          clear hin hout
          intro K Q hK
          go_simp
          refine C.mono ?_
          rintro e W' ⟨rfl, hb⟩
          exact hK _ _ ⟨hb, rfl⟩
        refine allp_mild 0 rfl rfl rfl (fun a x W hout hin hP => ?_) ?_
        · have e1 : a.tmps[1]? = some (.pointer (some ⟨g1, 0, none⟩)) := (hout 1 (by kernel_rfl)).trans rfl
          clear hin hout
          intro K Q hK
          exact wp_st_load hP 0 0 37 (.tmp 1) rfl rfl (eval_of_get e1) (bs b) (slab_whole _) _ Try.underlying37 rfl (by rw [size_bs, HBL.out]; exact size_blk) (hK _ _ ⟨Same.refl _, rfl⟩)
        refine allp_mild 0 rfl rfl rfl (fun a x W hout hin hP => ?_) ?_
        · have e23 := hin.is 4 23 (by kernel_rfl) (by decide) (by kernel_rfl) (by kernel_rfl) _ rfl
          have e24 := hin.is 5 24 (by kernel_rfl) (by decide) (by kernel_rfl) (by kernel_rfl) _ rfl
          have qq := HQE.out W
          clear hP
          clear hin hout
          intro K Q hK
          go_simp
          exact hK _ _ ⟨Same.refl _, rfl⟩
        refine allp_mild 0 rfl rfl rfl (fun a x W hout hin hP => ?_) ?_
        · have e21 := hin.is 2 21 (by kernel_rfl) (by decide) (by kernel_rfl) (by kernel_rfl) _ rfl
          have e25 := hin.is 6 25 (by kernel_rfl) (by decide) (by kernel_rfl) (by kernel_rfl) _ rfl
          exact does_pick rfl e21 ⟨Same.refl _, eval_of_get e25⟩
        exact all_end (by decide)
      · intro x V hP hV
        have HS : St w noF [⟨g1, 37, bs b⟩, ⟨g2, 46, labCells lab0⟩, ⟨g4, 77, bs R⟩, ⟨g6, 46, labCells M⟩] V := hP
        have h7 : x 7 = .bool true := hV 7 (by decide) (.inl (by kernel_rfl))
        clear hP hV
        simp only [putL, Act.put, List.setIfInBounds_toArray, List.set_cons_succ, List.set_cons_zero, h7]
        refine wpAnyH_done (by kernel_rfl) ?_ _
        clear h7
        go_wp2_with (first | ((with_reducible refine wpList_plain ?_ ?_); exact rfl; intro KK hKK; refine wp_st_store HS 1 0 46 (.tmp 2) (.tmp 27) rfl rfl rfl (.agg #[.int .u32 0, .int .u32 0, .int .u32 0, .int .u16 0, .int .u16 0]) rfl (by exact size_lab) (by exact Nat.le_refl 5) (by exact one_lab lab0) (labCells lab0) (spl_agg _ _ _ zeros_lab rfl) (fun W41 HSx => hKK _ _ ?_); clear hKK KK HS; have HS : St w noF [⟨g1, 37, bs b⟩, ⟨g2, 46, labCells lab0⟩, ⟨g4, 77, bs R⟩, ⟨g6, 46, labCells M⟩] W41 := HSx; clear HSx))
        exact bodyPost_ret (v := .tuple #[.agg (labCells lab0), .int .i64 11]) (results_cell_tmp Try.results18 _ _ g2 46 (labCells lab0) (0, 0) _ rfl (HS.row 1 rfl) Try.underlying46 rfl (by exact size_lab)) rfl ⟨HRES.out, HS.below⟩
    case pos =>
      have HRES := Lib.hid (lab_good h0 (by rw [hI, decide_eq_true he]))
      rw [hMb] at HRES
      rw [decide_eq_true he] at HQE
      clear hk h0 hb hRR hM hMb hB hI he
      go_enter Try.func18, Try.ntmps18
      go_upto_region 1 with (first | ((with_reducible refine wpList_plain ?_ ?_); exact rfl; intro KK hKK; refine wp_st_box HS 37 (.tmp 0) rfl _ rfl (bs b) (rfl) (fun g1 W1 HSx => hKK _ _ ?_); clear hKK KK HS; have HS : St w noF [⟨g1, 37, bs b⟩] W1 := HSx; clear HSx) | ((with_reducible refine wpList_plain ?_ ?_); exact rfl; intro KK hKK; refine wp_st_alloc HS 46 (labCells lab0) rfl (.agg (labCells lab0)) (by kernel_rfl) (rfl) (fun g2 W2 HSx => hKK _ _ ?_); clear hKK KK HS; have HS : St w noF [⟨g1, 37, bs b⟩, ⟨g2, 46, labCells lab0⟩] W2 := HSx; clear HSx))
      have qz := q0 W2
      clear q0
      go_upto_region 3 with (first | ((with_reducible refine wpList_plain ?_ ?_); exact rfl; intro KK hKK; refine wp_st_load HS 0 0 37 (.tmp 1) rfl rfl rfl (bs b) (slab_whole _) _ Try.underlying37 rfl (by rw [size_bs, HBL.out]; exact size_blk) (hKK _ _ ?_); clear hKK KK))
      clear qz
      go_wp2_with (first | ((with_reducible refine wpList_plain ?_ ?_); exact rfl; intro KK hKK; refine wp_st_load HS 0 0 37 (.tmp 1) rfl rfl rfl (bs b) (slab_whole _) _ Try.underlying37 rfl (by rw [size_bs, HBL.out]; exact size_blk) (hKK _ _ ?_); clear hKK KK))
      refine (HC.out _).mono ?_
      rintro e w1 ⟨rfl, hb1⟩
      have HSx := HS.same hb1
      clear HS hb1
      have HS := HSx
      clear HSx
      go_upto_region 4 with (first | ((with_reducible refine wpList_plain ?_ ?_); exact rfl; intro KK hKK; refine wp_st_alloc HS 77 (bs (zer 30)) rfl (.agg (bs (zer 30))) (by kernel_rfl) (rfl) (fun g4 W11 HSx => hKK _ _ ?_); clear hKK KK HS; have HS : St w noF [⟨g1, 37, bs b⟩, ⟨g2, 46, labCells lab0⟩, ⟨g4, 77, bs (zer 30)⟩] W11 := HSx; clear HSx) | ((with_reducible refine wpList_plain ?_ ?_); exact rfl; intro KK hKK; refine wp_st_store HS 2 0 77 (.tmp 4) (.tmp 14) rfl rfl rfl (.agg (bs R)) rfl (by exact by rw [show Value.cells (.agg (bs R)) = bs R from rfl, size_bs, HRL.out]; exact size_sec) (by rw [Nat.zero_add]; exact Nat.le_of_eq (Eq.symm (show (bs (zer 30)).size = (bs R).size by rw [size_bs, size_bs, HRL.out, length_zer]))) (by first | exact one_bs _ | exact one_lab _) (bs R) (spl_agg _ _ _ rfl (show (bs (zer 30)).size = (bs R).size by rw [size_bs, size_bs, HRL.out, length_zer])) (fun W12 HSx => hKK _ _ ?_); clear hKK KK HS; have HS : St w noF [⟨g1, 37, bs b⟩, ⟨g2, 46, labCells lab0⟩, ⟨g4, 77, bs R⟩] W12 := HSx; clear HSx))
      have CF := frombody_any g4 R _ (HS.row 2 rfl) HRL.out
      rw [HMR.out] at CF
      go_wp2_with fail
      refine CF.mono ?_
      rintro e w3 ⟨rfl, hb3⟩
      have HSx := HS.same hb3
      clear HS hb3 CF
      have HS := HSx
      clear HSx
      go_upto_region 5 with (first | ((with_reducible refine wpList_plain ?_ ?_); exact rfl; intro KK hKK; refine wp_st_alloc HS 46 (labCells lab0) rfl (.agg (labCells lab0)) (by kernel_rfl) (rfl) (fun g6 W21 HSx => hKK _ _ ?_); clear hKK KK HS; have HS : St w noF [⟨g1, 37, bs b⟩, ⟨g2, 46, labCells lab0⟩, ⟨g4, 77, bs R⟩, ⟨g6, 46, labCells lab0⟩] W21 := HSx; clear HSx) | ((with_reducible refine wpList_plain ?_ ?_); exact rfl; intro KK hKK; refine wp_st_store HS 3 0 46 (.tmp 6) (.tmp 18) rfl rfl rfl (.agg (labCells M)) rfl (by exact size_lab) (by rw [Nat.zero_add]; exact Nat.le_of_eq (Eq.symm (rfl))) (by first | exact one_bs _ | exact one_lab _) (labCells M) (spl_agg _ _ _ rfl (rfl)) (fun W22 HSx => hKK _ _ ?_); clear hKK KK HS; have HS : St w noF [⟨g1, 37, bs b⟩, ⟨g2, 46, labCells lab0⟩, ⟨g4, 77, bs R⟩, ⟨g6, 46, labCells M⟩] W22 := HSx; clear HSx))
      have hF0 : Wl [fun W => St w noF [⟨g1, 37, bs b⟩, ⟨g2, 46, labCells lab0⟩, ⟨g4, 77, bs R⟩, ⟨g6, 46, labCells M⟩] W] 0 W22.drew := HS.drew
      clear HS
      refine wp_region_phs [is (.int .i64 0), is (.bool false), is (.bool false), is (.agg (labCells M)), is (.agg (bs B)), is (.agg (bs b)), is (.bool false), is (.bool false)] [true, true, true, true, true, true, true, true] [(fun W => St w noF [⟨g1, 37, bs b⟩, ⟨g2, 46, labCells lab0⟩, ⟨g4, 77, bs R⟩, ⟨g6, 46, labCells M⟩] W)] [false, false, false, false, false, false, false, false] [some 0, some 0, some 0, some 0, some 0, some 0, some 0, some 0] [some 19, some 20, some 21, some 22, some 23, some 24, some 25, some 26] 8 0 (fun _ => true) rfl rfl (by kernel_rfl) (by kernel_rfl) (by kernel_rfl) (by kernel_rfl) ?_ ?_ ?_ ?_ ?_ ?_
      · repeat first | exact wok_nil | refine wok_cons (by first | exact fun _ _ h k => h.same k) ?_
      · repeat first | exact vok_nil | refine vok_rig (by first | exact fun _ _ _ h => h) ?_ | refine vok_soft (by first | exact fun _ _ _ h _ => h) ?_
      · exact hF0
      · repeat first | exact all_end (by decide) | refine all_cons (by first | exact rfl | exact ⟨rfl, fun _ _ h => Or.inl h⟩ | exact ⟨rfl, fun _ _ h => Or.inr ⟨h, rfl⟩⟩) ?_
      · refine allp_mild 0 rfl rfl rfl (fun a x W hout hin hP => ?_) ?_
        · have e5 : a.tmps[5]? = some (.int .i64 0) := (hout 5 (by kernel_rfl)).trans rfl
          exact does_move rfl e5 ⟨Same.refl _, rfl⟩
        refine allp_mild 0 rfl rfl rfl (fun a x W hout hin hP => ?_) ?_
        · have e19 := hin.is 0 19 (by kernel_rfl) (by decide) (by kernel_rfl) (by kernel_rfl) _ rfl
          clear hin hout
          intro K Q hK
          go_simp
          exact hK _ _ ⟨Same.refl _, rfl⟩
        refine allp_mild 0 rfl rfl rfl (fun a x W hout hin hP => ?_) ?_
        · have e20 := hin.is 1 20 (by kernel_rfl) (by decide) (by kernel_rfl) (by kernel_rfl) _ rfl
          exact does_move rfl e20 ⟨Same.refl _, rfl⟩
        refine allp_mild 0 rfl rfl rfl (fun a x W hout hin hP => ?_) ?_
        · have e6 : a.tmps[6]? = some (.pointer (some ⟨g6, 0, none⟩)) := (hout 6 (by kernel_rfl)).trans rfl
          clear hin hout
          intro K Q hK
          exact wp_st_load hP 3 0 46 (.tmp 6) rfl rfl (eval_of_get e6) (labCells M) (slab_whole _) _ Try.underlying46 rfl (by exact size_lab) (hK _ _ ⟨Same.refl _, rfl⟩)
        refine allp_mild 0 rfl rfl rfl (fun a x W hout hin hP => ?_) ?_
        · have e22 := hin.is 3 22 (by kernel_rfl) (by decide) (by kernel_rfl) (by kernel_rfl) _ rfl
          have C := HCE.out W
          clear hP
          clear hin hout
          intro K Q hK
          go_simp
          refine C.mono ?_
          rintro e W' ⟨rfl, hb⟩
          exact hK _ _ ⟨hb, rfl⟩
        refine allp_mild 0 rfl rfl rfl (fun a x W hout hin hP => ?_) ?_
        · have e1 : a.tmps[1]? = some (.pointer (some ⟨g1, 0, none⟩)) := (hout 1 (by kernel_rfl)).trans rfl
          clear hin hout
          intro K Q hK
          exact wp_st_load hP 0 0 37 (.tmp 1) rfl rfl (eval_of_get e1) (bs b) (slab_whole _) _ Try.underlying37 rfl (by rw [size_bs, HBL.out]; exact size_blk) (hK _ _ ⟨Same.refl _, rfl⟩)
        refine allp_mild 0 rfl rfl rfl (fun a x W hout hin hP => ?_) ?_
        · have e23 := hin.is 4 23 (by kernel_rfl) (by decide) (by kernel_rfl) (by kernel_rfl) _ rfl
          have e24 := hin.is 5 24 (by kernel_rfl) (by decide) (by kernel_rfl) (by kernel_rfl) _ rfl
          have qq := HQE.out W
          clear hP
          clear hin hout
          intro K Q hK
          go_simp
          exact hK _ _ ⟨Same.refl _, rfl⟩
        refine allp_mild 0 rfl rfl rfl (fun a x W hout hin hP => ?_) ?_
        · have e21 := hin.is 2 21 (by kernel_rfl) (by decide) (by kernel_rfl) (by kernel_rfl) _ rfl
          have e25 := hin.is 6 25 (by kernel_rfl) (by decide) (by kernel_rfl) (by kernel_rfl) _ rfl
          exact does_pick rfl e21 ⟨Same.refl _, eval_of_get e25⟩
        exact all_end (by decide)
      · intro x V hP hV
        have HS : St w noF [⟨g1, 37, bs b⟩, ⟨g2, 46, labCells lab0⟩, ⟨g4, 77, bs R⟩, ⟨g6, 46, labCells M⟩] V := hP
        have h7 : x 7 = .bool false := hV 7 (by decide) (.inl (by kernel_rfl))
        clear hP hV
        simp only [putL, Act.put, List.setIfInBounds_toArray, List.set_cons_succ, List.set_cons_zero, h7]
        refine wpAnyH_done (by kernel_rfl) ?_ _
        clear h7
        go_wp2_with (first | ((with_reducible refine wpList_plain ?_ ?_); exact rfl; intro KK hKK; refine wp_st_load HS 3 0 46 (.tmp 6) rfl rfl rfl (labCells M) (slab_whole _) _ Try.underlying46 rfl (by exact size_lab) (hKK _ _ ?_); clear hKK KK) | ((with_reducible refine wpList_plain ?_ ?_); exact rfl; intro KK hKK; refine wp_st_store HS 1 0 46 (.tmp 2) (.tmp 28) rfl rfl rfl (.agg (labCells M)) rfl (by exact size_lab) (by rw [Nat.zero_add]; exact Nat.le_of_eq (Eq.symm (rfl))) (by first | exact one_bs _ | exact one_lab _) (labCells M) (spl_agg _ _ _ rfl (rfl)) (fun W41 HSx => hKK _ _ ?_); clear hKK KK HS; have HS : St w noF [⟨g1, 37, bs b⟩, ⟨g2, 46, labCells M⟩, ⟨g4, 77, bs R⟩, ⟨g6, 46, labCells M⟩] W41 := HSx; clear HSx))
        exact bodyPost_ret (v := .tuple #[.agg (labCells M), .int .i64 0]) (results_cell_tmp Try.results18 _ _ g2 46 (labCells M) (0, 0) _ rfl (HS.row 1 rfl) Try.underlying46 rfl (by exact size_lab)) rfl ⟨HRES.out, HS.below⟩
end Go.Proofs.Ytbdpocbnkgckhaa

/- The program's bits of puts. -/
set_option maxRecDepth 4000
namespace Go.Proofs.Ytbdpocbnkgckhaa
open Go Go.RowKit
def zput : Array Value := (pcell (0, zer 32)).toArray
theorem size_putl : (Try.prog.info? 43).map (·.size) = some 33 := by kernel_rfl
theorem one_pcell (x : Int × List (BitVec 8)) : (pcell x).toArray.all (·.oneCell') = true := by
  rw [Array.all_eq_true_iff_forall_mem]
  intro v hv
  rw [List.mem_toArray] at hv
  rcases List.mem_cons.1 hv with rfl | hv
  · rfl
  · exact one_bytesV _ v hv
attribute [local go_sem] or_hd
set_option maxRecDepth 20000 in
set_option maxHeartbeats 800000 in
theorem labbits_any (l : List (Int × List (BitVec 8))) (v : Value) (w : World) (hv : PutsAt w v l) (hl : l.length ≤ 1000000) :
    Calls Try.prog 53 #[v] w fun e w' => e = .returned (.int .u16 (hd (bitsOf (l.map (·.1))))) ∧ Below w.heap.size w w' := by
  obtain ⟨A, c, rfl, _, hb, h3⟩ := hv
  have H3 := Lib.hid h3
  have HB := Lib.hid hb
  obtain ⟨n, hn⟩ : ∃ n, l.length = n := ⟨_, rfl⟩
  have HN := Lib.hid hn
  obtain ⟨D, hD⟩ : ∃ D : Nat → BitVec 16, ∀ k, bitsOf ((l.map (·.1)).take k) = D k := ⟨_, fun _ => rfl⟩
  have HD1 : Hid (∀ k x, l[k]? = some x → D (k + 1) = D k ||| bit1 x.1) := Lib.hid fun k x hx => by
    obtain ⟨hk, rfl⟩ := List.getElem?_eq_some_iff.1 hx
    rw [← hD, ← hD, bitsOf_take _ k (by simpa using hk)]; simp
  have HD0 : Hid (D 0 = 0#16) := Lib.hid (by rw [← hD]; rfl)
  rw [show bitsOf (l.map (·.1)) = D n by rw [← hD, ← hn]; congr 1; exact (List.take_of_length_le (by simp)).symm]
  rw [hn] at hl ⊢
  clear hD h3 hn hb
  go_enter Try.func53, Try.ntmps53
  go_wp2_with fail
  go_loopw [3, 8] (fun x i wr => ∃ k : Nat, k ≤ n ∧ i = .int .i64 k ∧ x = .int .u16 (hd (D k)) ∧ Below w.heap.size w wr) (fun _ i _ => n - (intOf i).toNat)
  case atStart => exact ⟨0, by omega, rfl, by rw [HD0.out]; rfl, Below.refl _ _⟩
  case round =>
    obtain ⟨k, hk, rfl, rfl, hB⟩ := hrel
    by_cases hlt : k < n
    · obtain ⟨⟨i, q⟩, hx⟩ : ∃ x, l[k]? = some x := ⟨_, List.getElem?_eq_getElem (by rw [HN.out]; exact hlt)⟩
      obtain ⟨b, o, rfl, hbw, h6⟩ := H3.out (by intro e; rw [e] at hx; simp at hx)
      have rg : wr.rangeAt b (o + k * 33) (pcell (i, q)) := fun j v hv => (hB.cell (p := ⟨b, o + k * 33 + j, none⟩) hbw).trans (h6 k _ hx j v hv)
      have hbd := (HB.out (i, q) (List.mem_of_getElem? hx)).2
      have HPL : Hid ((pcell (i, q)).length = 33) := Lib.hid (len_pcell (HB.out (i, q) (List.mem_of_getElem? hx)).1)
      have hd1 := HD1.out k _ hx
      have HD2 := Lib.hid hd1
      have hk0 : (0 : Int) ≤ (k : Int) := by omega
      have hk1 : (k : Int) < (n : Int) := by omega
      obtain ⟨X, hX⟩ : ∃ X, (pcell (i, q)).toArray = X := ⟨_, rfl⟩
      have HP1 : Hid ((Try.prog.info? 43).map (·.size) = some X.size) := Lib.hid (by rw [← hX, List.size_toArray, HPL.out]; exact size_putl)
      have HP2 : Hid (zput.size = X.size) := Lib.hid (by
        have e : (pcell (i, q)).toArray.size = 33 := by rw [List.size_toArray, HPL.out]
        rw [← hX, e]; rfl)
      have HP3 : Hid (X.all (·.oneCell') = true) := Lib.hid (by rw [← hX]; exact one_pcell _)
      have HX0 : Hid (X[0]? = some (.int .i64 i)) := Lib.hid (by rw [← hX]; rfl)
      have rg : wr.rangeAt b (o + k * 33) X.toList := by rw [← hX]; exact rg
      have HPX : Hid (X.toList.length = 33) := Lib.hid (by rw [← hX]; exact HPL.out)
      clear hX HPL
      have HBB := Lib.hid hB
      have HS := St.nil wr noF
      clear hx h6 hd1 hB
      go_upto_region 5 with (first | (refine wpList_load_mid rfl 43 _ rfl b (o + k * 33) rfl X.toList _ rg Try.underlying43 rfl (by rw [HPX.out]; exact size_putl) ?_) | ((with_reducible refine wpList_plain ?_ ?_); exact rfl; intro KK hKK; refine wp_st_alloc HS 43 (zput) rfl (.agg (zput)) (by kernel_rfl) (rfl) (fun g5 W1 HSx => hKK _ _ ?_); clear hKK KK HS; have HS : St wr noF [⟨g5, 43, zput⟩] W1 := HSx; clear HSx) | ((with_reducible refine wpList_plain ?_ ?_); exact rfl; intro KK hKK; refine wp_st_store HS 0 0 43 (.tmp 5) (.tmp 11) rfl rfl rfl (.agg (X)) rfl (by exact HP1.out) (by rw [Nat.zero_add]; exact Nat.le_of_eq (Eq.symm (HP2.out))) (HP3.out) (X) (spl_agg _ _ _ rfl (HP2.out)) (fun W2 HSx => hKK _ _ ?_); clear hKK KK HS; have HS : St wr noF [⟨g5, 43, X⟩] W2 := HSx; clear HSx))
      have hc := (HS.row 0 rfl).get HX0.out
      have HB2 := Lib.hid (HBB.out.trans (HS.below.mono HBB.out.size))
      clear rg HBB HS
      by_cases h0 : 0 ≤ i
      · by_cases h12 : i < 12
        · have hd3 : decide (0 ≤ i) = true := decide_eq_true h0
          have hd4 : decide (i < 12) = true := decide_eq_true h12
          have hb1 := bit1_eq i h0 h12
          go_wp2_with fail
          exact ⟨⟨k + 1, by omega, by go_num, by rw [HD2.out], HB2.out⟩, by simp [intOf] <;> omega⟩
        · have hd3 : decide (0 ≤ i) = true := decide_eq_true h0
          have hd4 : decide (i < 12) = false := decide_eq_false h12
          have HZ : Hid (bit1 i = 0#16) := Lib.hid (by unfold bit1; rw [if_neg (fun h => h12 h.2)])
          go_wp2_with fail
          exact ⟨⟨k + 1, by omega, by go_num, by rw [HD2.out, HZ.out, BitVec.or_zero], HB2.out⟩, by simp [intOf] <;> omega⟩
      · have hd3 : decide (0 ≤ i) = false := decide_eq_false h0
        have HZ : Hid (bit1 i = 0#16) := Lib.hid (by unfold bit1; rw [if_neg (fun h => h0 h.1)])
        go_wp2_with fail
        exact ⟨⟨k + 1, by omega, by go_num, by rw [HD2.out, HZ.out, BitVec.or_zero], HB2.out⟩, by simp [intOf] <;> omega⟩
    · obtain rfl : k = n := by omega
      go_wp2_with fail
      go_ret
      exact ⟨rfl, hB⟩
end Go.Proofs.Ytbdpocbnkgckhaa

/- Which is later; the bits of puts; the contracts of the program's label together. -/
set_option maxRecDepth 4000
namespace Go.Proofs.Ytbdpocbnkgckhaa
open Go Go.RowKit
set_option maxHeartbeats 400000 in
theorem later_any (e s t n : BitVec 32) (w : World) :
    Calls Try.prog 22 #[.int .u32 (wd e), .int .u32 (wd s), .int .u32 (wd t), .int .u32 (wd n)] w fun r w' => r = .returned (.bool (laterB e s t n)) ∧ Below w.heap.size w w' := by
  have h1 : decide (t.toNat < e.toNat) = decide (wd t < wd e) := by simp [wd]
  have h2 : decide (e = t) = (wd e == wd t) := by
    by_cases h : e = t
    · subst h; simp
    · have : wd e ≠ wd t := fun h' => h (wd_inj h')
      simp [h, this]
  have h3 : decide (n.toNat < s.toNat) = decide (wd n < wd s) := by simp [wd]
  unfold laterB
  rw [h1, h2, h3]
  clear h1 h2 h3
  generalize wd e = a
  generalize wd s = b
  generalize wd t = c
  generalize wd n = d
  go_enter Try.func22, Try.ntmps22
  by_cases h2 : a = c
  · subst h2
    go_wp2_with fail
    go_ret
    refine ⟨?_, Below.refl _ _⟩
    simp
  · go_wp2_with fail
    go_ret
    refine ⟨?_, Below.refl _ _⟩
    simp [h2]
end Go.Proofs.Ytbdpocbnkgckhaa

/- Packets: what they are, their bytes, plainly. No function of the program is named here. -/
set_option maxRecDepth 4000
namespace Go.Proofs.Ytbdpocbnkgckhaa
open Go Go.RowKit
abbrev Pt := Int × List (BitVec 8)
structure Pkt where
  k : Int
  e : BitVec 32
  s : BitVec 32
  l : List Pt
  deriving DecidableEq
def mayP (p : Pkt) : Bool := if p.k = 1 ∨ p.k = 2 then goodB (p.l.map (·.1)) else if p.k = 3 ∨ p.k = 4 then decide (p.l.length = 0) else false
def pktA (k : Int) (e s : BitVec 32) (v : Value) : Array Value := #[.int .i64 k, .int .u32 (wd e), .int .u32 (wd s), v]
def byteP (z : Int) : BitVec 8 := BitVec.ofInt 8 z
def putB (x : Pt) : List (BitVec 8) := byteP x.1 :: x.2
def hdB (k : Int) (e s : BitVec 32) (n : Nat) : List (BitVec 8) := [byteP k] ++ four e ++ four s ++ [byteP n]
def bodyP (p : Pkt) : List (BitVec 8) := hdB p.k p.e p.s p.l.length ++ (p.l.map putB).flatten
def encP (p : Pkt) : List (BitVec 8) := bodyP p ++ two (crcOf (bodyP p))
theorem length_hdB (k : Int) (e s : BitVec 32) (n : Nat) : (hdB k e s n).length = 10 := by simp [hdB, four, two]
theorem length_putsB {l : List Pt} (h : ∀ x ∈ l, x.2.length = 32) : ((l.map putB).flatten).length = 33 * l.length := by
  induction l with
  | nil => rfl
  | cons x l ih =>
    rw [List.map_cons, List.flatten_cons, List.length_append, ih (fun y hy => h y (List.mem_cons_of_mem _ hy)), List.length_cons]
    have := h x (List.mem_cons_self ..)
    simp only [putB, List.length_cons, this]; omega
theorem length_bodyP {p : Pkt} (h : ∀ x ∈ p.l, x.2.length = 32) : (bodyP p).length = 10 + 33 * p.l.length := by unfold bodyP; rw [List.length_append, length_hdB, length_putsB h]
theorem length_encP {p : Pkt} (h : ∀ x ∈ p.l, x.2.length = 32) : (encP p).length = 12 + 33 * p.l.length := by unfold encP; rw [List.length_append, length_bodyP h]; simp [two]; omega
theorem mayP_len {p : Pkt} (h : mayP p = true) : p.l.length ≤ 5 := by
  unfold mayP at h
  split at h
  · unfold goodB at h
    simp only [Bool.and_eq_true, decide_eq_true_eq, List.length_map] at h
    exact h.2.2
  · split at h
    · have := of_decide_eq_true h; omega
    · cases h
end Go.Proofs.Ytbdpocbnkgckhaa

/- Numbers that slices begin with, as the program's lowfirst reads them. -/
set_option maxRecDepth 4000
namespace Go.Proofs.Ytbdpocbnkgckhaa
open Go Go.RowKit
attribute [local go_sem] lowb_hd lowb8_hd convb_hd shl8_hd or_hd lw16 lsh16 lwh or_wd shl16_wd
set_option maxHeartbeats 800000 in
theorem short_at (g o len c : Nat) (q : List (BitVec 8)) (w : World) (hR : BAt w g o q) (ha : 2 ≤ q.length) (hl : 2 ≤ len) :
    Calls Try.prog 45 #[.slice (some ⟨g, o, none⟩) len c] w fun e w' => e = .returned (.int .u16 (hd (sv 0 q))) ∧ Below w.heap.size w w' := by
  have hl0 : (0 : Int) < (len : Int) := by omega
  have hl1 : (1 : Int) < (len : Int) := by omega
  have hn0 : 0 < len := by omega
  have hn1 : 1 < len := by omega
  have H0 : Hid (0 < q.length) := Lib.hid (by omega)
  have H1 : Hid (1 < q.length) := Lib.hid (by omega)
  clear ha hl
  have hF0 : Wl [fun W => Below w.heap.size w W ∧ BAt W g o q] 0 w.drew := ⟨(Below.refl _ _).drew, hR.call (Below.refl _ _).drew⟩
  clear hR
  go_enter Try.func45, Try.ntmps45
  go_upto_region 1 with fail
  refine wp_region_phs [is (.slice (some ⟨g, o, none⟩) len c), is (.pointer (some ⟨g, o, none⟩)), is (.int .u8 (bd (q.getD 0 0#8))), is (.int .u16 (hd ((q.getD 0 0#8).setWidth 16))), is (.slice (some ⟨g, o, none⟩) len c), is (.pointer (some ⟨g, o + 1, none⟩)), is (.int .u8 (bd (q.getD 1 0#8))), is (.int .u16 (hd ((q.getD 1 0#8).setWidth 16))), is (.int .u16 (hd (((q.getD 1 0#8).setWidth 16) <<< 8))), is (.int .u16 (hd (sv 0 q))), is (.int .u16 (hd (sv 0 q)))] [true, true, true, true, true, true, true, true, true, true, true] [(fun W => Below w.heap.size w W ∧ BAt W g o q)] [false, false, false, false, false, false, false, false, false, false, false] [some 0, some 0, some 0, some 0, some 0, some 0, some 0, some 0, some 0, some 0, some 0] [some 3, some 4, some 5, some 6, some 7, some 8, some 9, some 10, some 11, some 12, some 2] 11 0 (fun _ => true) rfl rfl (by kernel_rfl) (by kernel_rfl) (by kernel_rfl) (by kernel_rfl) ?_ ?_ ?_ ?_ ?_ ?_
  · repeat first | exact wok_nil | refine wok_cons (by first | exact fun _ _ h k => ⟨h.1.trans (k.mono h.1.size), h.2.call k⟩) ?_
  · repeat first | exact vok_nil | refine vok_rig (by first | exact fun _ _ _ h => h) ?_ | refine vok_soft (by first | exact fun _ _ _ h _ => h) ?_
  · exact hF0
  · repeat first | exact all_end (by decide) | refine all_cons (by first | exact rfl | exact ⟨rfl, fun _ _ h => Or.inl h⟩ | exact ⟨rfl, fun _ _ h => Or.inr ⟨h, rfl⟩⟩) ?_
  · refine allp_mild 0 rfl rfl rfl (fun a x W hout hin hP => ?_) ?_
    · have e0 : a.tmps[0]? = some (.slice (some ⟨g, o, none⟩) len c) := (hout 0 (by kernel_rfl)).trans rfl
      exact does_move rfl e0 ⟨Same.refl _, rfl⟩
    refine allp_mild 0 rfl rfl rfl (fun a x W hout hin hP => ?_) ?_
    · have e3 := hin.is 0 3 (by kernel_rfl) (by decide) (by kernel_rfl) (by kernel_rfl) _ rfl
      clear hin hout
      intro K Q hK
      go_simp
      exact hK _ _ ⟨Same.refl _, rfl⟩
    refine allp_mild 0 rfl rfl rfl (fun a x W hout hin hP => ?_) ?_
    · have e4 := hin.is 1 4 (by kernel_rfl) (by decide) (by kernel_rfl) (by kernel_rfl) _ rfl
      have hc : W.cell? ⟨g, o, none⟩ = some (.int .u8 (bd (q.getD 0 0#8))) := hP.2.get 0 H0.out
      clear hP
      clear hin hout
      intro K Q hK
      go_simp
      exact hK _ _ ⟨Same.refl _, rfl⟩
    refine allp_mild 0 rfl rfl rfl (fun a x W hout hin hP => ?_) ?_
    · have e5 := hin.is 2 5 (by kernel_rfl) (by decide) (by kernel_rfl) (by kernel_rfl) _ rfl
      clear hin hout
      intro K Q hK
      go_simp
      exact hK _ _ ⟨Same.refl _, rfl⟩
    refine allp_mild 0 rfl rfl rfl (fun a x W hout hin hP => ?_) ?_
    · have e0 : a.tmps[0]? = some (.slice (some ⟨g, o, none⟩) len c) := (hout 0 (by kernel_rfl)).trans rfl
      exact does_move rfl e0 ⟨Same.refl _, rfl⟩
    refine allp_mild 0 rfl rfl rfl (fun a x W hout hin hP => ?_) ?_
    · have e7 := hin.is 4 7 (by kernel_rfl) (by decide) (by kernel_rfl) (by kernel_rfl) _ rfl
      clear hin hout
      intro K Q hK
      go_simp
      exact hK _ _ ⟨Same.refl _, rfl⟩
    refine allp_mild 0 rfl rfl rfl (fun a x W hout hin hP => ?_) ?_
    · have e8 := hin.is 5 8 (by kernel_rfl) (by decide) (by kernel_rfl) (by kernel_rfl) _ rfl
      have hc : W.cell? ⟨g, o + 1, none⟩ = some (.int .u8 (bd (q.getD 1 0#8))) := hP.2.get 1 H1.out
      clear hP
      clear hin hout
      intro K Q hK
      go_simp
      exact hK _ _ ⟨Same.refl _, rfl⟩
    refine allp_mild 0 rfl rfl rfl (fun a x W hout hin hP => ?_) ?_
    · have e9 := hin.is 6 9 (by kernel_rfl) (by decide) (by kernel_rfl) (by kernel_rfl) _ rfl
      clear hin hout
      intro K Q hK
      go_simp
      exact hK _ _ ⟨Same.refl _, rfl⟩
    refine allp_mild 0 rfl rfl rfl (fun a x W hout hin hP => ?_) ?_
    · have e10 := hin.is 7 10 (by kernel_rfl) (by decide) (by kernel_rfl) (by kernel_rfl) _ rfl
      clear hin hout
      intro K Q hK
      go_simp
      exact hK _ _ ⟨Same.refl _, rfl⟩
    refine allp_mild 0 rfl rfl rfl (fun a x W hout hin hP => ?_) ?_
    · have e6 := hin.is 3 6 (by kernel_rfl) (by decide) (by kernel_rfl) (by kernel_rfl) _ rfl
      have e11 := hin.is 8 11 (by kernel_rfl) (by decide) (by kernel_rfl) (by kernel_rfl) _ rfl
      clear hin hout
      intro K Q hK
      go_simp
      exact hK _ _ ⟨Same.refl _, rfl⟩
    refine allp_mild 0 rfl rfl rfl (fun a x W hout hin hP => ?_) ?_
    · have e12 := hin.is 9 12 (by kernel_rfl) (by decide) (by kernel_rfl) (by kernel_rfl) _ rfl
      exact does_assign rfl e12 ⟨Same.refl _, rfl⟩
    exact all_end (by decide)
  · intro x W hP hV
    have hb := hP.1
    have h10 : x 10 = .int .u16 (hd (sv 0 q)) := hV 10 (by decide) (.inl (by kernel_rfl))
    clear hP hV
    simp only [putL, Act.put, List.setIfInBounds_toArray, List.set_cons_succ, List.set_cons_zero, h10]
    refine wpAnyH_done (by kernel_rfl) ?_ _
    clear h10
    go_wp2_with fail
    go_ret
    exact ⟨rfl, hb⟩
theorem sv_drop (q : List (BitVec 8)) : sv 0 (q.drop 2) = sv (0 + 2) q := by
  unfold sv
  simp [List.getD_eq_getElem?_getD, List.getElem?_drop]
set_option maxHeartbeats 800000 in
theorem long_at (g o len c : Nat) (q : List (BitVec 8)) (w : World) (hR : BAt w g o q) (ha : 4 ≤ q.length) (hl : 4 ≤ len) (hc : len ≤ c) :
    Calls Try.prog 44 #[.slice (some ⟨g, o, none⟩) len c] w fun e w' => e = .returned (.int .u32 (wd (lv 0 q))) ∧ Below w.heap.size w w' := by
  have hl2 : (2 : Int) ≤ (len : Int) := by omega
  have hc2 : (len : Int) ≤ (c : Int) := by omega
  have hcc : (2 : Int) ≤ (c : Int) := by omega
  have hne : ¬ c = 2 := by omega
  have hn2 : 2 ≤ len := by omega
  have hn3 : 2 ≤ c := by omega
  have HSV := Lib.hid (sv_drop q)
  have H0 : Hid (2 ≤ q.length ∧ 2 ≤ len) := Lib.hid ⟨by omega, by omega⟩
  have H2 : Hid (2 ≤ (q.drop 2).length ∧ 2 ≤ len - 2) := Lib.hid ⟨by rw [List.length_drop]; omega, by omega⟩
  clear ha hl hc
  have hF0 : Wl [fun W => Below w.heap.size w W ∧ BAt W g o q] 0 w.drew := ⟨(Below.refl _ _).drew, hR.call (Below.refl _ _).drew⟩
  clear hR
  go_enter Try.func44, Try.ntmps44
  go_upto_region 1 with fail
  refine wp_region_phs [is (.slice (some ⟨g, o, none⟩) len c), is (.int .u16 (hd (sv 0 q))), is (.int .u32 (wd ((sv 0 q).setWidth 32))), is (.slice (some ⟨g, o, none⟩) len c), is (.slice (some ⟨g, o + 2, none⟩) (len - 2) (c - 2)), is (.int .u16 (hd (sv (0 + 2) q))), is (.int .u32 (wd ((sv (0 + 2) q).setWidth 32))), is (.int .u32 (wd (((sv (0 + 2) q).setWidth 32) <<< 16))), is (.int .u32 (wd (lv 0 q))), is (.int .u32 (wd (lv 0 q)))] [true, true, true, true, true, true, true, true, true, true] [(fun W => Below w.heap.size w W ∧ BAt W g o q)] [false, false, false, false, false, false, false, false, false, false] [some 0, some 0, some 0, some 0, some 0, some 0, some 0, some 0, some 0, some 0] [some 3, some 4, some 5, some 6, some 7, some 8, some 9, some 10, some 11, some 2] 10 0 (fun _ => true) rfl rfl (by kernel_rfl) (by kernel_rfl) (by kernel_rfl) (by kernel_rfl) ?_ ?_ ?_ ?_ ?_ ?_
  · repeat first | exact wok_nil | refine wok_cons (by first | exact fun _ _ h k => ⟨h.1.trans (k.mono h.1.size), h.2.call k⟩) ?_
  · repeat first | exact vok_nil | refine vok_rig (by first | exact fun _ _ _ h => h) ?_ | refine vok_soft (by first | exact fun _ _ _ h _ => h) ?_
  · exact hF0
  · repeat first | exact all_end (by decide) | refine all_cons (by first | exact rfl | exact ⟨rfl, fun _ _ h => Or.inl h⟩ | exact ⟨rfl, fun _ _ h => Or.inr ⟨h, rfl⟩⟩) ?_
  · refine allp_mild 0 rfl rfl rfl (fun a x W hout hin hP => ?_) ?_
    · have e0 : a.tmps[0]? = some (.slice (some ⟨g, o, none⟩) len c) := (hout 0 (by kernel_rfl)).trans rfl
      exact does_move rfl e0 ⟨Same.refl _, rfl⟩
    refine allp_mild 0 rfl rfl rfl (fun a x W hout hin hP => ?_) ?_
    · have e3 := hin.is 0 3 (by kernel_rfl) (by decide) (by kernel_rfl) (by kernel_rfl) _ rfl
      have C := short_at g o len c q W hP.2 H0.out.1 H0.out.2
      clear hP
      clear hin hout
      intro K Q hK
      go_simp
      refine C.mono ?_
      rintro e W' ⟨rfl, hb⟩
      exact hK _ _ ⟨hb, rfl⟩
    refine allp_mild 0 rfl rfl rfl (fun a x W hout hin hP => ?_) ?_
    · have e4 := hin.is 1 4 (by kernel_rfl) (by decide) (by kernel_rfl) (by kernel_rfl) _ rfl
      clear hin hout
      intro K Q hK
      go_simp
      exact hK _ _ ⟨Same.refl _, rfl⟩
    refine allp_mild 0 rfl rfl rfl (fun a x W hout hin hP => ?_) ?_
    · have e0 : a.tmps[0]? = some (.slice (some ⟨g, o, none⟩) len c) := (hout 0 (by kernel_rfl)).trans rfl
      exact does_move rfl e0 ⟨Same.refl _, rfl⟩
    refine allp_mild 0 rfl rfl rfl (fun a x W hout hin hP => ?_) ?_
    · have e6 := hin.is 3 6 (by kernel_rfl) (by decide) (by kernel_rfl) (by kernel_rfl) _ rfl
      clear hin hout
      intro K Q hK
      go_simp
      exact hK _ _ ⟨Same.refl _, rfl⟩
    refine allp_mild 0 rfl rfl rfl (fun a x W hout hin hP => ?_) ?_
    · have e7 := hin.is 4 7 (by kernel_rfl) (by decide) (by kernel_rfl) (by kernel_rfl) _ rfl
      have C := short_at g (o + 2) (len - 2) (c - 2) (q.drop 2) W (hP.2.drop 2) H2.out.1 H2.out.2
      rw [HSV.out] at C
      clear hP
      clear hin hout
      intro K Q hK
      go_simp
      refine C.mono ?_
      rintro e W' ⟨rfl, hb⟩
      exact hK _ _ ⟨hb, rfl⟩
    refine allp_mild 0 rfl rfl rfl (fun a x W hout hin hP => ?_) ?_
    · have e8 := hin.is 5 8 (by kernel_rfl) (by decide) (by kernel_rfl) (by kernel_rfl) _ rfl
      clear hin hout
      intro K Q hK
      go_simp
      exact hK _ _ ⟨Same.refl _, rfl⟩
    refine allp_mild 0 rfl rfl rfl (fun a x W hout hin hP => ?_) ?_
    · have e9 := hin.is 6 9 (by kernel_rfl) (by decide) (by kernel_rfl) (by kernel_rfl) _ rfl
      clear hin hout
      intro K Q hK
      go_simp
      exact hK _ _ ⟨Same.refl _, rfl⟩
    refine allp_mild 0 rfl rfl rfl (fun a x W hout hin hP => ?_) ?_
    · have e5 := hin.is 2 5 (by kernel_rfl) (by decide) (by kernel_rfl) (by kernel_rfl) _ rfl
      have e10 := hin.is 7 10 (by kernel_rfl) (by decide) (by kernel_rfl) (by kernel_rfl) _ rfl
      clear hin hout
      intro K Q hK
      go_simp
      exact hK _ _ ⟨Same.refl _, rfl⟩
    refine allp_mild 0 rfl rfl rfl (fun a x W hout hin hP => ?_) ?_
    · have e11 := hin.is 8 11 (by kernel_rfl) (by decide) (by kernel_rfl) (by kernel_rfl) _ rfl
      exact does_assign rfl e11 ⟨Same.refl _, rfl⟩
    exact all_end (by decide)
  · intro x W hP hV
    have hb := hP.1
    have h10 : x 9 = .int .u32 (wd (lv 0 q)) := hV 9 (by decide) (.inl (by kernel_rfl))
    clear hP hV
    simp only [putL, Act.put, List.setIfInBounds_toArray, List.set_cons_succ, List.set_cons_zero, h10]
    refine wpAnyH_done (by kernel_rfl) ?_ _
    clear h10
    go_wp2_with fail
    go_ret
    exact ⟨rfl, hb⟩
end Go.Proofs.Ytbdpocbnkgckhaa

/- The example of label's statements. -/
set_option maxRecDepth 4000
namespace Go.Proofs.Ytbdpocbnkgckhaa
open Go Go.RowKit
attribute [local go_sem high] eql_lab
end Go.Proofs.Ytbdpocbnkgckhaa

/- Arguments of label's statements opened: labels, words, puts. -/
set_option maxRecDepth 4000
namespace Go.Proofs.Ytbdpocbnkgckhaa
open Go Go.ChangeShapes Go.WideShapes Go.ChangeAt Go.RowKit
end Go.Proofs.Ytbdpocbnkgckhaa

/- The document's comparison of two labels' numbers. -/
set_option maxRecDepth 4000
namespace Go.Proofs.Ytbdpocbnkgckhaa
open Go Go.RowKit
end Go.Proofs.Ytbdpocbnkgckhaa

/- A packet as an argument: opened. -/
set_option maxRecDepth 4000
namespace Go.Proofs.Ytbdpocbnkgckhaa
open Go Go.ChangeShapes Go.WideShapes Go.ChangeAt Go.RowKit
abbrev PR18 := Int × BitVec 32 × BitVec 32 × List Pt × Unit
def rdPk18 : Rd PR18 := rdCons 1 (rdInt .i64) (rdCons 1 rdU32 (rdCons 1 rdU32 (rdCons 1 (rdSl 33 rdPut) rdNil)))
theorem cells18_int : Try.prog.cellsOf 3 = 1 := by kernel_rfl
theorem cells18_u32 : Try.prog.cellsOf 26 = 1 := by kernel_rfl
theorem cells18_puts : Try.prog.cellsOf 27 = 1 := by kernel_rfl
theorem opens_pk18 : Opens Try.prog 29 rdPk18 :=
  opens_struct Try.underlying29 (by kernel_rfl) (opensF_cons rfl cells18_int (opens_int Try.underlying3) (opensF_cons rfl cells18_u32 (opens_u32 Try.underlying26) (opensF_cons rfl cells18_u32 (opens_u32 Try.underlying26) (opensF_cons rfl cells18_puts opens_puts opensF_nil))))
end Go.Proofs.Ytbdpocbnkgckhaa
