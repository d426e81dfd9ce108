/- Merged: LabelSpec TokSpec TokMay LabelRef Low TokPrg LowC TokDec TokEq TokPure AskSpec AskPrg AskPrgE AskCell TokWakes TokRef. -/
import Derived.Deep.AppendLies
import Derived.Laws.Cover3
import Derived.Laws.StructEq
import Derived.Test.YtobklbfcnbmnmaaDoorMSeal0
import Derived.Test.YtobklbfcnbmnmaaDoorMGen1
import Derived.Test.YtobklbfcnbmnmaaDoorMGen0
/- A label as plain data: its bytes, what bytes tell, which is later, the bits of numbers. No program is named here. -/
set_option maxRecDepth 4000
namespace Go.Proofs.YtobklbfcnbmnmaaDoor
def le (v : BitVec 32) (n : Nat) : List (BitVec 8) := (List.range n).map fun i => (v >>> (8 * i)).setWidth 8
def num (b : List (BitVec 8)) : BitVec 32 := b.foldr (fun x v => (v <<< 8) + x.setWidth 32) 0#32
structure Lab where
  e : BitVec 32
  s : BitVec 32
  n : BitVec 32
  d : BitVec 16
  l : BitVec 16
deriving DecidableEq
def labBody (L : Lab) : List (BitVec 8) := le L.e 4 ++ le L.s 4 ++ le L.n 4 ++ le (L.d.setWidth 32) 2 ++ le (L.l.setWidth 32) 2
def labB (L : Lab) : List (BitVec 8) := sealedB 0x4c#8 (labBody L)
def labOf (b : List (BitVec 8)) : Lab := ⟨num (b.take 4), num ((b.drop 4).take 4), num ((b.drop 8).take 4), (num ((b.drop 12).take 2)).setWidth 16, (num ((b.drop 14).take 2)).setWidth 16⟩
def lab0 : Lab := ⟨0#32, 0#32, 0#32, 0#16, 0#16⟩
def labIs (b : List (BitVec 8)) : Bool := decOk b && decide (labB (labOf (bodyOf b)) = b)
def decLab (b : List (BitVec 8)) : Lab := if b = List.replicate 32 0#8 then lab0 else if labIs b then labOf (bodyOf b) else lab0
def decLabE (b : List (BitVec 8)) : Int := if b = List.replicate 32 0#8 then 0 else if labIs b then 0 else 11
def laterB (e s t n : BitVec 32) : Bool := decide (t.toNat < e.toNat) || (decide (e = t) && decide (n.toNat < s.toNat))
theorem length_le (v : BitVec 32) (n : Nat) : (le v n).length = n := by simp [le]
theorem le_succ (v : BitVec 32) (n : Nat) : le v (n + 1) = le v n ++ [(v >>> (8 * n)).setWidth 8] := by simp [le, List.range_succ]
theorem length_labBody (L : Lab) : (labBody L).length = 16 := by simp [labBody, length_le]
theorem length_labB (L : Lab) : (labB L).length = 32 := length_sealedB (by rw [length_labBody]; decide)
theorem num4 (a b c d : BitVec 8) : num [a, b, c, d] = (((((d.setWidth 32) <<< 8) + c.setWidth 32) <<< 8) + b.setWidth 32) <<< 8 + a.setWidth 32 := by
  simp [num]
theorem num_le4 (v : BitVec 32) : num (le v 4) = v := by
  have e : le v 4 = [v.setWidth 8, (v >>> 8).setWidth 8, (v >>> 16).setWidth 8, (v >>> 24).setWidth 8] := by simp [le, List.range_succ]
  rw [e, num4]
  apply BitVec.eq_of_toNat_eq
  simp only [BitVec.toNat_add, BitVec.toNat_shiftLeft, BitVec.toNat_setWidth, BitVec.toNat_ushiftRight, Nat.shiftLeft_eq, Nat.shiftRight_eq_div_pow]
  have := v.isLt
  omega
theorem num_le2 (d : BitVec 16) : (num (le (d.setWidth 32) 2)).setWidth 16 = d := by
  have e : le (d.setWidth 32) 2 = [(d.setWidth 32).setWidth 8, (d.setWidth 32 >>> 8).setWidth 8] := by simp [le, List.range_succ]
  rw [e]
  apply BitVec.eq_of_toNat_eq
  simp only [num, List.foldr_cons, List.foldr_nil, BitVec.toNat_add, BitVec.toNat_shiftLeft, BitVec.toNat_setWidth, BitVec.toNat_ushiftRight, Nat.shiftLeft_eq, Nat.shiftRight_eq_div_pow, BitVec.toNat_ofNat]
  have := d.isLt
  omega
theorem labOf_pad (L : Lab) (r : List (BitVec 8)) : labOf (labBody L ++ r) = L := by
  have h4 : ∀ (v : BitVec 32) (x : List (BitVec 8)), (le v 4 ++ x).take 4 = le v 4 := fun v x => by rw [List.take_append_of_le_length (by rw [length_le]; exact Nat.le_refl _), List.take_of_length_le (by rw [length_le]; exact Nat.le_refl _)]
  have h2 : ∀ (v : BitVec 32) (x : List (BitVec 8)), (le v 2 ++ x).take 2 = le v 2 := fun v x => by rw [List.take_append_of_le_length (by rw [length_le]; exact Nat.le_refl _), List.take_of_length_le (by rw [length_le]; exact Nat.le_refl _)]
  have d4 : ∀ (v : BitVec 32) (x : List (BitVec 8)) (k : Nat), (le v 4 ++ x).drop (k + 4) = x.drop k := fun v x k => by rw [List.drop_append, List.drop_of_length_le (by rw [length_le]; omega), length_le, List.nil_append]; congr 1
  have d2 : ∀ (v : BitVec 32) (x : List (BitVec 8)) (k : Nat), (le v 2 ++ x).drop (k + 2) = x.drop k := fun v x k => by rw [List.drop_append, List.drop_of_length_le (by rw [length_le]; omega), length_le, List.nil_append]; congr 1
  unfold labOf labBody
  simp only [List.append_assoc]
  rw [h4, d4 _ _ 0, d4 _ _ 4, d4 _ _ 0, d4 _ _ 8, d4 _ _ 4, d4 _ _ 0, d4 _ _ 10, d4 _ _ 6, d4 _ _ 2, d2 _ _ 0]
  simp only [List.drop_zero]
  rw [h4, h4, h2, h2, num_le4, num_le4, num_le4, num_le2, num_le2]
theorem bodyOf_labB (L : Lab) : bodyOf (labB L) = labBody L ++ List.replicate 13 0#8 := by
  have h := length_labBody L
  show ((labBody L ++ List.replicate (29 - (labBody L).length) 0#8) ++ crcTail _).take 29 = _
  rw [h]
  exact List.take_left' (by rw [List.length_append, h, List.length_replicate])
theorem labOf_labB (L : Lab) : labOf (bodyOf (labB L)) = L := by rw [bodyOf_labB, labOf_pad]
theorem labB_inj {L M : Lab} (h : labB L = labB M) : L = M := by rw [← labOf_labB L, ← labOf_labB M, h]
theorem labIs_labB (L : Lab) : labIs (labB L) = true := by
  unfold labIs
  rw [labOf_labB, decide_eq_true rfl, Bool.and_true]
  exact decOk_sealedB (by decide) (by rw [length_labBody]; decide)
theorem labB_ne (L : Lab) : labB L ≠ List.replicate 32 0#8 := fun h => by
  have := congrArg markOf h
  rw [show markOf (labB L) = 0x4c#8 from rfl] at this
  exact absurd this (by decide)
theorem decLab_labB (L : Lab) : decLab (labB L) = L := by unfold decLab; rw [if_neg (labB_ne L), labIs_labB, if_pos rfl, labOf_labB]
theorem decLabE_labB (L : Lab) : decLabE (labB L) = 0 := by unfold decLabE; rw [if_neg (labB_ne L), labIs_labB, if_pos rfl]
/- a sector that is a label's is that one's, or zeros -/
theorem labB_decLab {b : List (BitVec 8)} (h : decLabE b = 0) : labB (decLab b) = b ∨ (b = List.replicate 32 0#8 ∧ decLab b = lab0) := by
  unfold decLabE at h
  unfold decLab
  by_cases h0 : b = List.replicate 32 0#8
  · exact .inr ⟨h0, by rw [if_pos h0]⟩
  · rw [if_neg h0] at h ⊢
    by_cases h1 : labIs b = true
    · rw [if_pos h1] at h ⊢
      unfold labIs at h1
      simp only [Bool.and_eq_true, decide_eq_true_eq] at h1
      exact .inl h1.2
    · rw [if_neg h1] at h; cases h
end Go.Proofs.YtobklbfcnbmnmaaDoor

/- Tokens: what they are, their bytes, plainly. No function of the program is named here. -/
set_option maxRecDepth 4000
namespace Go.Proofs.YtobklbfcnbmnmaaDoor
open Go Go.RowKit
structure Clm where
  p : Int
  n : List (BitVec 8)
  r : Int
  u : BitVec 32
  g : BitVec 32
  deriving DecidableEq
def mayC (c : Clm) : Bool := decide (0 ≤ c.p) && decide (c.p < 4) && (decide (c.n = []) || goodN c.n) && decide (1 ≤ c.r) && decide (c.r ≤ 3)
def byteI (z : Int) : BitVec 8 := BitVec.ofInt 8 z
def clmB (c : Clm) : List (BitVec 8) := byteI c.p :: (padN c.n ++ byteI c.r :: (le c.u 4 ++ le c.g 4))
theorem len_le4 (v : BitVec 32) : (le v 4).length = 4 := by simp [le]
theorem length_clmB (c : Clm) : (clmB c).length = 14 := by unfold clmB; simp [length_padN, len_le4]
def clmCells (c : Clm) : Array Value := #[.int .i64 c.p, .string (strB c.n), .int .i64 c.r, .int .u32 (wd c.u), .int .u32 (wd c.g)]
def tokCells (c : Clm) (q : List (BitVec 8)) : Array Value := clmCells c ++ bs q
def clm0 : Clm := ⟨0, [], 0, 0#32, 0#32⟩
theorem may_true {c : Clm} (h0 : 0 ≤ c.p) (h1 : c.p < 4) (hn : c.n = [] ∨ goodN c.n = true) (h2 : 1 ≤ c.r) (h3 : c.r ≤ 3) : mayC c = true := by
  unfold mayC; rw [decide_eq_true h0, decide_eq_true h1, decide_eq_true h2, decide_eq_true h3]
  rcases hn with h | h
  · rw [decide_eq_true h]; rfl
  · rw [h, Bool.or_true]; rfl
theorem may_p {c : Clm} (h : ¬ (0 ≤ c.p ∧ c.p < 4)) : mayC c = false := by
  unfold mayC
  by_cases h0 : 0 ≤ c.p
  · rw [decide_eq_false (show ¬ c.p < 4 from fun k => h ⟨h0, k⟩)]; simp
  · rw [decide_eq_false h0]; simp
theorem may_n {c : Clm} (h : ¬ c.n = []) (k : goodN c.n = false) : mayC c = false := by
  unfold mayC; rw [decide_eq_false h, k]; simp
theorem may_r {c : Clm} (h : ¬ (1 ≤ c.r ∧ c.r ≤ 3)) : mayC c = false := by
  unfold mayC
  by_cases h0 : 1 ≤ c.r
  · rw [decide_eq_false (show ¬ c.r ≤ 3 from fun k => h ⟨h0, k⟩)]; simp
  · rw [decide_eq_false h0]; simp
end Go.Proofs.YtobklbfcnbmnmaaDoor

/- The program's token: may there be such a claim. -/
set_option maxRecDepth 4000
namespace Go.Proofs.YtobklbfcnbmnmaaDoor
open Go Go.RowKit
attribute [local go_sem] strB_size
set_option maxHeartbeats 1600000 in
theorem maybe_any (c : Clm) (w : World) (hm : c.n.length ≤ maxLen) : Calls Tryd.prog 35 #[.agg (clmCells c)] w fun e w' => e = .returned (.bool (mayC c)) ∧ Below w.heap.size w w' := by
  have HM := Lib.hid hm
  have HG : Hid (∀ W : World, Calls Tryd.prog 29 #[.slice (some ⟨W.heap.size, 0, none⟩) 1 1] (W.alloc (.cells #[.string (strB c.n)] 9)) fun e w' => e = .returned (.bool (goodN c.n)) ∧ Below W.heap.size W w') := Lib.hid fun W => by
    refine (good_any [c.n] _ _ (strs1 W c.n hm 9) (by unfold maxLen; simp)).mono ?_
    rintro e w' ⟨rfl, hb⟩
    exact ⟨by unfold goodNs; simp, ((Below.refl W.heap.size W).alloc (Nat.le_refl _) _).trans (hb.mono (by simp))⟩
  have HTRUE := Lib.hid (@may_true c)
  have HFP := Lib.hid (@may_p c)
  have HFN := Lib.hid (@may_n c)
  have HFR := Lib.hid (@may_r c)
  obtain ⟨G, hG⟩ : ∃ G, mayC c = G := ⟨_, rfl⟩
  rw [hG] at HTRUE HFP HFN HFR ⊢
  clear hm hG
  have HS := St.nil w noF
  go_enter Tryd.func35, Tryd.ntmps35
  go_upto_region 1 with (first | ((with_reducible refine wpList_plain ?_ ?_); exact rfl; intro KK hKK; refine wp_st_box HS 24 (.tmp 0) rfl _ rfl (clmCells c) (rfl) (fun g1 W1 HSx => hKK _ _ ?_); clear hKK KK HS; have HS : St w noF [⟨g1, 24, clmCells c⟩] W1 := HSx; clear HSx))
  have c0 : W1.cell? ⟨g1, 0, none⟩ = some (.int .i64 c.p) := (HS.row 0 rfl).get rfl
  have c1 : W1.cell? ⟨g1, 1, none⟩ = some (.string (strB c.n)) := (HS.row 0 rfl).get rfl
  have c2 : W1.cell? ⟨g1, 2, none⟩ = some (.int .i64 c.r) := (HS.row 0 rfl).get rfl
  obtain ⟨p, hp⟩ : ∃ p, c.p = p := ⟨_, rfl⟩
  obtain ⟨r, hr⟩ : ∃ r, c.r = r := ⟨_, rfl⟩
  obtain ⟨q, hq⟩ : ∃ q, c.n = q := ⟨_, rfl⟩
  rw [hp] at c0 HTRUE HFP
  rw [hr] at c2 HTRUE HFR
  rw [hq] at c1 HG HTRUE HFN
  clear hp hr hq HM
  have HBW := Lib.hid HS.below
  have HLT : Hid (g1 < W1.heap.size) := Lib.hid (HS.row 0 rfl).lt
  clear HS
  by_cases h0 : p < 0
  · have d0 : decide (0 ≤ p) = false := decide_eq_false (by omega)
    have hG : G = false := HFP.out (by omega)
    go_wp2_with fail
    go_ret
    first | exact ⟨rfl, HBW.out⟩ | (rw [hG]; exact ⟨rfl, HBW.out⟩)
  have d0 : decide (0 ≤ p) = true := decide_eq_true (by omega)
  by_cases h1 : 4 ≤ p
  · have d1 : decide (p < 4) = false := decide_eq_false (by omega)
    have hG : G = false := HFP.out (by omega)
    go_wp2_with fail
    go_ret
    first | exact ⟨rfl, HBW.out⟩ | (rw [hG]; exact ⟨rfl, HBW.out⟩)
  have d1 : decide (p < 4) = true := decide_eq_true (by omega)
  by_cases hn : q = []
  · subst hn
    clear HG
    have q0 : ((strB []).toList == (⟨#[]⟩ : ByteArray).toList) = true := by rw [str_beq0]; rfl
    have q1 : (strB []).toList.isEmpty = true := by rw [str_emp]; rfl
    have q2 : (strB []).toList = [] := by rw [str_nil]
    by_cases h2 : r < 1
    · have d2 : decide (1 ≤ r) = false := decide_eq_false (by omega)
      have hG : G = false := HFR.out (by omega)
      go_wp2_with fail
      go_ret
      first | exact ⟨rfl, HBW.out⟩ | (rw [hG]; exact ⟨rfl, HBW.out⟩)
    have d2 : decide (1 ≤ r) = true := decide_eq_true (by omega)
    by_cases h3 : 3 < r
    · have d3 : decide (r ≤ 3) = false := decide_eq_false (by omega)
      have hG : G = false := HFR.out (by omega)
      go_wp2_with fail
      go_ret
      first | exact ⟨rfl, HBW.out⟩ | (rw [hG]; exact ⟨rfl, HBW.out⟩)
    have d3 : decide (r ≤ 3) = true := decide_eq_true (by omega)
    have hG : G = true := HTRUE.out (by omega) (by omega) (.inl rfl) (by omega) (by omega)
    go_wp2_with fail
    go_ret
    first | exact ⟨rfl, HBW.out⟩ | (rw [hG]; exact ⟨rfl, HBW.out⟩)
  · have q0 : ((strB q).toList == (⟨#[]⟩ : ByteArray).toList) = false := by rw [str_beq0, decide_eq_false hn]
    have q1 : (strB q).toList.isEmpty = false := by rw [str_emp, decide_eq_false hn]
    have q2 : ¬ (strB q).toList = [] := by rw [str_nil]; exact hn
    cases hg : goodN q with
    | false =>
      have hG : G = false := HFN.out hn hg
      rw [hg] at HG
      go_wp2_with fail
      refine (HG.out _).mono ?_
      rintro e w1 ⟨rfl, hb⟩
      go_wp2_with fail
      go_ret
      first | exact ⟨rfl, HBW.out.trans (hb.mono HBW.out.size)⟩ | (rw [hG]; exact ⟨rfl, HBW.out.trans (hb.mono HBW.out.size)⟩)
    | true =>
      have HGG := Lib.hid hg
      rw [hg] at HG
      clear hg hn
      by_cases h2 : r < 1
      · have d2 : decide (1 ≤ r) = false := decide_eq_false (by omega)
        have hG : G = false := HFR.out (by omega)
        go_wp2_with fail
        refine (HG.out _).mono ?_
        rintro e w1 ⟨rfl, hb⟩
        have HB1 := Lib.hid (HBW.out.trans (hb.mono HBW.out.size))
        have c2' : w1.cell? ⟨g1, 2, none⟩ = some (.int .i64 r) := (hb.cell (p := ⟨g1, 2, none⟩) (HLT.out)).trans c2
        clear hb
        go_wp2_with fail
        go_ret
        first | exact ⟨rfl, HB1.out⟩ | (rw [hG]; exact ⟨rfl, HB1.out⟩)
      have d2 : decide (1 ≤ r) = true := decide_eq_true (by omega)
      by_cases h3 : 3 < r
      · have d3 : decide (r ≤ 3) = false := decide_eq_false (by omega)
        have hG : G = false := HFR.out (by omega)
        go_wp2_with fail
        refine (HG.out _).mono ?_
        rintro e w1 ⟨rfl, hb⟩
        have HB1 := Lib.hid (HBW.out.trans (hb.mono HBW.out.size))
        have c2' : w1.cell? ⟨g1, 2, none⟩ = some (.int .i64 r) := (hb.cell (p := ⟨g1, 2, none⟩) (HLT.out)).trans c2
        clear hb
        go_wp2_with fail
        go_ret
        first | exact ⟨rfl, HB1.out⟩ | (rw [hG]; exact ⟨rfl, HB1.out⟩)
      have d3 : decide (r ≤ 3) = true := decide_eq_true (by omega)
      have hG : G = true := HTRUE.out (by omega) (by omega) (.inr HGG.out) (by omega) (by omega)
      go_wp2_with fail
      refine (HG.out _).mono ?_
      rintro e w1 ⟨rfl, hb⟩
      have HB1 := Lib.hid (HBW.out.trans (hb.mono HBW.out.size))
      have c2' : w1.cell? ⟨g1, 2, none⟩ = some (.int .i64 r) := (hb.cell (p := ⟨g1, 2, none⟩) (HLT.out)).trans c2
      clear hb
      go_wp2_with fail
      go_ret
      first | exact ⟨rfl, HB1.out⟩ | (rw [hG]; exact ⟨rfl, HB1.out⟩)
end Go.Proofs.YtobklbfcnbmnmaaDoor

/- The document's numbers as bytes, the lowest first, and back. -/
set_option maxRecDepth 4000
namespace Go.Proofs.YtobklbfcnbmnmaaDoor
open Go Go.RowKit
attribute [local go_sem] low_wd low8_wd low16_wd low24_wd shl8_wd conv_bd add_wd
theorem bytesV_snoc (q : List (BitVec 8)) (x : BitVec 8) : bytesV (q ++ [x]) = bytesV q ++ bytesV [x] := by simp [bytesV]
set_option maxHeartbeats 800000 in
theorem refput_any (v : BitVec 32) (n : Nat) (w : World) (hn : n ≤ 4) :
    Calls Tryd.prog 39 #[.int .u32 (wd v), .int .i64 (n : Int)] w fun e w' => ∃ u, e = .returned u ∧ w'.ownsRow w.heap.size 5 1 u n (bytesV (le v n)) ∧ Below w.heap.size w w' := by
  have HS : Hid (∀ k, le v (k + 1) = le v k ++ [(v >>> (8 * k)).setWidth 8]) := Lib.hid (le_succ v)
  obtain ⟨L, hL⟩ : ∃ L, le v = L := ⟨_, rfl⟩
  have HL0 : Hid (L 0 = []) := Lib.hid (by rw [← hL]; rfl)
  rw [hL] at HS ⊢
  clear hL
  go_enter Tryd.func39, Tryd.ntmps39
  go_wp2_with fail
  go_loopw [5, 6] (fun s i wr => ∃ k : Nat, k ≤ n ∧ i = .int .i64 k ∧ wr.ownsRow w.heap.size 5 1 s k (bytesV (L k)) ∧ Below w.heap.size w wr) (fun _ i _ => n - (intOf i).toNat)
  case atStart => exact ⟨0, by omega, rfl, by rw [HL0.out]; exact World.ownsRow_nil _ _ _ _, Below.refl _ _⟩
  case round =>
    obtain ⟨k, hk, rfl, hO, hB⟩ := hrel
    obtain ⟨A, c, rfl, _⟩ := own_slice_form hO
    by_cases hlt : k < n
    · have hs := HS.out k
      have HB := Lib.hid hB
      have hlt' : (k : Int) < (n : Int) := by omega
      obtain ⟨x, hx⟩ : ∃ x, (v >>> (8 * k)).setWidth 8 = x := ⟨_, rfl⟩
      rw [hx] at hs
      have HSS := Lib.hid hs
      have HO := Lib.hid (hO.alloc (.cells #[.int .u8 (bd x)] 5))
      have HR : Hid (Slice (wr.alloc (.cells #[.int .u8 (bd x)] 5)) (.slice (some ⟨wr.heap.size, 0, none⟩) 1 1) [x]) := Lib.hid (row_slice (Row.fresh wr 5 (bs [x])) (c := 1) (Nat.le_refl _))
      have HB2 := Lib.hid (hB.alloc hB.size (.cells #[.int .u8 (bd x)] 5))
      clear hO hB hs
      rcases k with _ | _ | _ | _ | k
      · subst hx
        go_wp2_with (at_builtin; refine wpList_append_slice rfl (.tmp 12) (.tmp 19) rfl w.heap.size _ _ _ rfl HO.out (some ⟨wr.heap.size, 0, none⟩) 1 1 _ rfl HR.out (fun h => by cases h) (by omega) HB2.out.size ?_; intro v6 w6 own6 hb6; have HO6 := Lib.hid own6; have HB6 := Lib.hid (HB2.out.trans hb6); clear own6 hb6)
        exact ⟨⟨1, by omega, rfl, by rw [HSS.out, bytesV_snoc]; exact HO6.out, HB6.out⟩, by simp [intOf] <;> omega⟩
      · subst hx
        go_wp2_with (at_builtin; refine wpList_append_slice rfl (.tmp 12) (.tmp 19) rfl w.heap.size _ _ _ rfl HO.out (some ⟨wr.heap.size, 0, none⟩) 1 1 _ rfl HR.out (fun h => by cases h) (by omega) HB2.out.size ?_; intro v6 w6 own6 hb6; have HO6 := Lib.hid own6; have HB6 := Lib.hid (HB2.out.trans hb6); clear own6 hb6)
        exact ⟨⟨2, by omega, rfl, by rw [HSS.out, bytesV_snoc]; exact HO6.out, HB6.out⟩, by simp [intOf] <;> omega⟩
      · subst hx
        go_wp2_with (at_builtin; refine wpList_append_slice rfl (.tmp 12) (.tmp 19) rfl w.heap.size _ _ _ rfl HO.out (some ⟨wr.heap.size, 0, none⟩) 1 1 _ rfl HR.out (fun h => by cases h) (by omega) HB2.out.size ?_; intro v6 w6 own6 hb6; have HO6 := Lib.hid own6; have HB6 := Lib.hid (HB2.out.trans hb6); clear own6 hb6)
        exact ⟨⟨3, by omega, rfl, by rw [HSS.out, bytesV_snoc]; exact HO6.out, HB6.out⟩, by simp [intOf] <;> omega⟩
      · subst hx
        go_wp2_with (at_builtin; refine wpList_append_slice rfl (.tmp 12) (.tmp 19) rfl w.heap.size _ _ _ rfl HO.out (some ⟨wr.heap.size, 0, none⟩) 1 1 _ rfl HR.out (fun h => by cases h) (by omega) HB2.out.size ?_; intro v6 w6 own6 hb6; have HO6 := Lib.hid own6; have HB6 := Lib.hid (HB2.out.trans hb6); clear own6 hb6)
        exact ⟨⟨4, by omega, rfl, by rw [HSS.out, bytesV_snoc]; exact HO6.out, HB6.out⟩, by simp [intOf] <;> omega⟩
      · omega
    · obtain rfl : k = n := by omega
      have HO := Lib.hid hO
      have HB := Lib.hid hB
      clear hO hB
      go_wp2_with fail
      go_ret
      exact ⟨_, rfl, HO.out, HB.out⟩
theorem num_drop (q : List (BitVec 8)) (k : Nat) (hk : k < q.length) : num (q.drop k) = (num (q.drop (k + 1)) <<< 8) + (q.getD k 0#8).setWidth 32 := by
  rw [List.drop_eq_getElem_cons hk, List.getD_eq_getElem?_getD, List.getElem?_eq_getElem hk]; rfl
set_option maxHeartbeats 800000 in
theorem refnum_any (q : List (BitVec 8)) (v : Value) (w : World) (hs : Slice w v q) (hq : q.length ≤ 100) :
    Calls Tryd.prog 34 #[v] w fun e w' => e = .returned (.int .u32 (wd (num q))) ∧ w = w' := by
  obtain ⟨A, c, rfl, _, h3⟩ := hs
  have H3 := Lib.hid h3
  obtain ⟨n, hn⟩ : ∃ n, q.length = n := ⟨_, rfl⟩
  have HN := Lib.hid hn
  obtain ⟨D, hD⟩ : ∃ D : Nat → BitVec 32, ∀ k, num (q.drop k) = D k := ⟨_, fun _ => rfl⟩
  have HD1 : Hid (∀ k, k < n → D k = (D (k + 1) <<< 8) + (q.getD k 0#8).setWidth 32) := Lib.hid fun k hk => by rw [← hD, ← hD]; exact num_drop q k (by omega)
  have HDn : Hid (D n = 0#32) := Lib.hid (by rw [← hD, ← hn, List.drop_length]; rfl)
  rw [show num q = D 0 by rw [← hD 0]; rfl]
  rw [hn] at hq ⊢
  clear hD h3 hn
  go_enter Tryd.func34, Tryd.ntmps34
  go_wp2_with fail
  go_loopw [3, 4] (fun x j wr => wr = w ∧ ∃ (k : Nat) (J : Int), j = .int .i64 J ∧ J + 1 = k ∧ k ≤ n ∧ x = .int .u32 (wd (D k))) (fun _ j _ => (intOf j + 1).toNat)
  case atStart => exact ⟨rfl, n, (n : Int) - 1, by go_num, by omega, Nat.le_refl _, by rw [HDn.out]; rfl⟩
  case round =>
    obtain ⟨rfl, k, J, rfl, hJ, hk, rfl⟩ := hrel
    rcases k with _ | k
    · obtain rfl : J = -1 := by omega
      clear hk hJ
      go_wp2_with fail
      go_ret
      exact ⟨rfl, rfl⟩
    · obtain rfl : J = (k : Int) := by omega
      have hd := HD1.out k (by omega)
      have HD := Lib.hid hd
      obtain ⟨b, o, rfl, _, h6⟩ := H3.out (by intro e; have := HN.out; rw [e] at this; simp at this; omega)
      have c0 := h6 k (q.getD k 0#8) (by rw [List.getD_eq_getElem?_getD, List.getElem?_eq_getElem (by rw [HN.out]; omega)]; rfl)
      obtain ⟨x, hx⟩ : ∃ x, q.getD k 0#8 = x := ⟨_, rfl⟩
      rw [hx] at HD c0
      have hk0 : (0 : Int) ≤ (k : Int) := by omega
      have hk1 : (k : Int) < (n : Int) := by omega
      clear hx h6 hd
      generalize D (k + 1) = y at *
      go_wp2_with fail
      exact ⟨⟨trivial, k, (k : Int) - 1, by go_num, by omega, by omega, by rw [HD.out]⟩, by simp [intOf] <;> omega⟩
theorem got_piece {w : World} {g k n c : Nat} {t : TypeId} {q : List (BitVec 8)} {e : Int} (h : Row w g t (gotCells q e)) (hq : q.length = 30) (hn : 1 + k + n ≤ 30) (hc : n ≤ c) : Slice w (.slice (some ⟨g, 1 + k, none⟩) n c) (((q.drop 1).drop k).take n) := by
  have hl : (((q.drop 1).drop k).take n).length = n := by rw [List.length_take, List.length_drop, List.length_drop]; omega
  refine ⟨some ⟨g, 1 + k, none⟩, c, by rw [hl], by rw [hl]; exact hc, fun _ => ⟨g, 1 + k, rfl, h.lt, fun j x hx => ?_⟩⟩
  have hj : j < n := by have := (List.getElem?_eq_some_iff.1 hx).1; omega
  rw [List.getElem?_take_of_lt hj, List.getElem?_drop, List.getElem?_drop] at hx
  refine h.get ?_
  unfold gotCells
  rw [List.getElem?_toArray, List.getElem?_append_left (by rw [len_bytesV, hq]; omega)]
  unfold bytesV
  rw [List.getElem?_map, show 1 + k + j = 1 + (k + j) by omega, hx]; rfl
theorem got_at {w : World} {g i : Nat} {t : TypeId} {q : List (BitVec 8)} {e : Int} (h : Row w g t (gotCells q e)) (hq : q.length = 30) (hi : i < 30) : w.cell? ⟨g, i, none⟩ = some (.int .u8 (bd (q.getD i 0#8))) := by
  refine h.get ?_
  unfold gotCells
  rw [List.getElem?_toArray, List.getElem?_append_left (by rw [len_bytesV, hq]; exact hi)]
  unfold bytesV
  rw [List.getElem?_map, List.getElem?_eq_getElem (by rw [hq]; exact hi), List.getD_eq_getElem?_getD, List.getElem?_eq_getElem (by rw [hq]; exact hi)]; rfl
end Go.Proofs.YtobklbfcnbmnmaaDoor

/- Numbers as bytes, the lowest first, as the program's lowfirst appends and reads them. -/
set_option maxRecDepth 4000
namespace Go.Proofs.YtobklbfcnbmnmaaDoor
open Go Go.RowKit
theorem bytesV_apps (p q : List (BitVec 8)) : bytesV (p ++ q) = bytesV p ++ bytesV q := by simp [bytesV]
def two (n : BitVec 16) : List (BitVec 8) := [n.setWidth 8, (n >>> 8).setWidth 8]
def four (v : BitVec 32) : List (BitVec 8) := two (v.setWidth 16) ++ two ((v >>> 16).setWidth 16)
def sv (o : Nat) (q : List (BitVec 8)) : BitVec 16 := (q.getD o 0#8).setWidth 16 ||| ((q.getD (o + 1) 0#8).setWidth 16) <<< 8
def lv (o : Nat) (q : List (BitVec 8)) : BitVec 32 := (sv o q).setWidth 32 ||| ((sv (o + 2) q).setWidth 32) <<< 16
theorem lw16 (x : BitVec 32) : IntKind.u16.wrap (wd x) = hd (x.setWidth 16) := by
  rw [IntKind.wrap_u16]; unfold wd hd; have := x.isLt; rw [BitVec.toNat_setWidth]; omega
theorem lwh (x : BitVec 16) : IntKind.u32.wrap (hd x) = wd (x.setWidth 32) := by
  rw [IntKind.wrap_u32]; unfold wd hd; have := x.isLt; rw [BitVec.toNat_setWidth]; omega
theorem lsh16 (x : BitVec 32) : IntKind.u16.wrap (wd x / (65536 : Int)) = hd ((x >>> 16).setWidth 16) := by rw [show wd x / (65536 : Int) = wd (x >>> 16) from shr_wd x 16, lw16]
attribute [local go_sem] lowb_hd lowb8_hd convb_hd shl8_hd or_hd lw16 lsh16 lwh or_wd shl16_wd
set_option maxHeartbeats 400000 in
theorem appshort_any (base : Nat) (q : List (BitVec 8)) (n : BitVec 16) (v : Value) (w : World) (h : w.ownsRow base 5 1 v q.length (bytesV q)) (hb : base ≤ w.heap.size) (hl : q.length ≤ 1000) :
    Calls Tryd.prog 18 #[v, .int .u16 (hd n)] w fun e w' => ∃ v', e = .returned v' ∧ w'.ownsRow base 5 1 v' (q.length + 2) (bytesV (q ++ two n)) ∧ Below base w w' := by
  obtain ⟨m, hm⟩ : ∃ m, q.length = m := ⟨_, rfl⟩
  rw [hm] at h hl ⊢
  clear hm
  obtain ⟨C, hC⟩ : ∃ C, (#[.int .u8 (bd (n.setWidth 8)), .int .u8 (bd ((n >>> 8).setWidth 8))] : Array Value) = C := ⟨_, rfl⟩
  have HR4 : Hid (Slice (w.alloc (.cells #[.int .u8 (bd (n.setWidth 8)), .int .u8 (bd ((n >>> 8).setWidth 8))] 5)) (.slice (some ⟨w.heap.size, 0, none⟩) 2 2) (two n)) := Lib.hid (row_slice (Row.fresh w 5 (bs (two n))) (c := 2) (Nat.le_refl _))
  have HO4 := Lib.hid (h.alloc (.cells #[.int .u8 (bd (n.setWidth 8)), .int .u8 (bd ((n >>> 8).setWidth 8))] 5))
  have HB2 := Lib.hid ((Below.refl base w).alloc hb (.cells #[.int .u8 (bd (n.setWidth 8)), .int .u8 (bd ((n >>> 8).setWidth 8))] 5))
  have HB4 := Lib.hid (Nat.le_trans hb HB2.out.size)
  clear h hb hC
  go_enter Tryd.func18, Tryd.ntmps18
  go_wp2_with (at_builtin; refine wpList_append_slice rfl (.tmp 5) (.tmp 11) rfl base _ m _ rfl HO4.out (some ⟨w.heap.size, 0, none⟩) 2 2 _ rfl HR4.out (fun h => by cases h) (by omega) HB4.out ?_; intro v6 w6 own6 hb6; rw [← bytesV_apps] at own6; have HO6 := Lib.hid own6; have HB6 := Lib.hid (HB2.out.trans hb6); clear own6 hb6)
  go_ret
  exact ⟨_, rfl, HO6.out, HB6.out⟩
set_option maxHeartbeats 400000 in
theorem applong_any (base : Nat) (q : List (BitVec 8)) (n : BitVec 32) (v : Value) (w : World) (h : w.ownsRow base 5 1 v q.length (bytesV q)) (hb : base ≤ w.heap.size) (hl : q.length ≤ 900) :
    Calls Tryd.prog 36 #[v, .int .u32 (wd n)] w fun e w' => ∃ v', e = .returned v' ∧ w'.ownsRow base 5 1 v' (q.length + 4) (bytesV (q ++ four n)) ∧ Below base w w' := by
  have C1 := appshort_any base q (n.setWidth 16) v w h hb (by omega)
  have HB := Lib.hid hb
  have HL := Lib.hid hl
  clear h hb hl
  go_enter Tryd.func36, Tryd.ntmps36
  go_wp2_with fail
  refine C1.mono ?_
  rintro e w1 ⟨v1, rfl, h1, b1⟩
  clear C1
  have C2 := appshort_any base (q ++ two (n.setWidth 16)) ((n >>> 16).setWidth 16) v1 w1 (by rw [List.length_append]; exact h1) (Nat.le_trans HB.out b1.size) (by rw [List.length_append]; have := HL.out; show q.length + 2 ≤ 1000; omega)
  have B1 := Lib.hid b1
  clear h1 b1
  go_wp2_with fail
  refine C2.mono ?_
  rintro e w2 ⟨v2, rfl, h2, b2⟩
  clear C2
  rw [List.append_assoc, List.length_append] at h2
  have H2 := Lib.hid h2
  have B2 := Lib.hid (B1.out.trans b2)
  clear h2 b2
  go_wp2_with fail
  go_ret
  exact ⟨_, rfl, H2.out, B2.out⟩
set_option maxHeartbeats 800000 in
theorem short_any (g o len c : Nat) (t : TypeId) (q : List (BitVec 8)) (w : World) (hR : Row w g t (bs q)) (ha : o + 2 ≤ q.length) (hl : 2 ≤ len) :
    Calls Tryd.prog 43 #[.slice (some ⟨g, o, none⟩) len c] w fun e w' => e = .returned (.int .u16 (hd (sv o q))) ∧ Below w.heap.size w w' := by
  have hl0 : (0 : Int) < (len : Int) := by omega
  have hl1 : (1 : Int) < (len : Int) := by omega
  have hn0 : 0 < len := by omega
  have hn1 : 1 < len := by omega
  have H0 : Hid (o < q.length) := Lib.hid (by omega)
  have H1 : Hid (o + 1 < q.length) := Lib.hid (by omega)
  clear ha hl
  have hF0 : Wl [fun W => Below w.heap.size w W ∧ Row W g t (bs q)] 0 w.drew := ⟨(Below.refl _ _).drew, hR⟩
  clear hR
  go_enter Tryd.func43, Tryd.ntmps43
  go_upto_region 1 with fail
  refine wp_region_phs [is (.slice (some ⟨g, o, none⟩) len c), is (.pointer (some ⟨g, o, none⟩)), is (.int .u8 (bd (q.getD o 0#8))), is (.int .u16 (hd ((q.getD o 0#8).setWidth 16))), is (.slice (some ⟨g, o, none⟩) len c), is (.pointer (some ⟨g, o + 1, none⟩)), is (.int .u8 (bd (q.getD (o + 1) 0#8))), is (.int .u16 (hd ((q.getD (o + 1) 0#8).setWidth 16))), is (.int .u16 (hd (((q.getD (o + 1) 0#8).setWidth 16) <<< 8))), is (.int .u16 (hd (sv o q))), is (.int .u16 (hd (sv o q)))] [true, true, true, true, true, true, true, true, true, true, true] [(fun W => Below w.heap.size w W ∧ Row W g t (bs q))] [false, false, false, false, false, false, false, false, false, false, false] [some 0, some 0, some 0, some 0, some 0, some 0, some 0, some 0, some 0, some 0, some 0] [some 3, some 4, some 5, some 6, some 7, some 8, some 9, some 10, some 11, some 12, some 2] 11 0 (fun _ => true) rfl rfl (by kernel_rfl) (by kernel_rfl) (by kernel_rfl) (by kernel_rfl) ?_ ?_ ?_ ?_ ?_ ?_
  · repeat first | exact wok_nil | refine wok_cons (by first | exact fun _ _ h k => ⟨h.1.trans (k.mono h.1.size), h.2.call k⟩) ?_
  · repeat first | exact vok_nil | refine vok_rig (by first | exact fun _ _ _ h => h) ?_ | refine vok_soft (by first | exact fun _ _ _ h _ => h) ?_
  · exact hF0
  · repeat first | exact all_end (by decide) | refine all_cons (by first | exact rfl | exact ⟨rfl, fun _ _ h => Or.inl h⟩ | exact ⟨rfl, fun _ _ h => Or.inr ⟨h, rfl⟩⟩) ?_
  · refine allp_mild 0 rfl rfl rfl (fun a x W hout hin hP => ?_) ?_
    · have e0 : a.tmps[0]? = some (.slice (some ⟨g, o, none⟩) len c) := (hout 0 (by kernel_rfl)).trans rfl
      exact does_move rfl e0 ⟨Same.refl _, rfl⟩
    refine allp_mild 0 rfl rfl rfl (fun a x W hout hin hP => ?_) ?_
    · have e3 := hin.is 0 3 (by kernel_rfl) (by decide) (by kernel_rfl) (by kernel_rfl) _ rfl
      clear hin hout
      intro K Q hK
      go_simp
      exact hK _ _ ⟨Same.refl _, rfl⟩
    refine allp_mild 0 rfl rfl rfl (fun a x W hout hin hP => ?_) ?_
    · have e4 := hin.is 1 4 (by kernel_rfl) (by decide) (by kernel_rfl) (by kernel_rfl) _ rfl
      have hc := hP.2.get (i := o) (get_bs q o H0.out)
      clear hP
      clear hin hout
      intro K Q hK
      go_simp
      exact hK _ _ ⟨Same.refl _, rfl⟩
    refine allp_mild 0 rfl rfl rfl (fun a x W hout hin hP => ?_) ?_
    · have e5 := hin.is 2 5 (by kernel_rfl) (by decide) (by kernel_rfl) (by kernel_rfl) _ rfl
      clear hin hout
      intro K Q hK
      go_simp
      exact hK _ _ ⟨Same.refl _, rfl⟩
    refine allp_mild 0 rfl rfl rfl (fun a x W hout hin hP => ?_) ?_
    · have e0 : a.tmps[0]? = some (.slice (some ⟨g, o, none⟩) len c) := (hout 0 (by kernel_rfl)).trans rfl
      exact does_move rfl e0 ⟨Same.refl _, rfl⟩
    refine allp_mild 0 rfl rfl rfl (fun a x W hout hin hP => ?_) ?_
    · have e7 := hin.is 4 7 (by kernel_rfl) (by decide) (by kernel_rfl) (by kernel_rfl) _ rfl
      clear hin hout
      intro K Q hK
      go_simp
      exact hK _ _ ⟨Same.refl _, rfl⟩
    refine allp_mild 0 rfl rfl rfl (fun a x W hout hin hP => ?_) ?_
    · have e8 := hin.is 5 8 (by kernel_rfl) (by decide) (by kernel_rfl) (by kernel_rfl) _ rfl
      have hc := hP.2.get (i := o + 1) (get_bs q (o + 1) H1.out)
      clear hP
      clear hin hout
      intro K Q hK
      go_simp
      exact hK _ _ ⟨Same.refl _, rfl⟩
    refine allp_mild 0 rfl rfl rfl (fun a x W hout hin hP => ?_) ?_
    · have e9 := hin.is 6 9 (by kernel_rfl) (by decide) (by kernel_rfl) (by kernel_rfl) _ rfl
      clear hin hout
      intro K Q hK
      go_simp
      exact hK _ _ ⟨Same.refl _, rfl⟩
    refine allp_mild 0 rfl rfl rfl (fun a x W hout hin hP => ?_) ?_
    · have e10 := hin.is 7 10 (by kernel_rfl) (by decide) (by kernel_rfl) (by kernel_rfl) _ rfl
      clear hin hout
      intro K Q hK
      go_simp
      exact hK _ _ ⟨Same.refl _, rfl⟩
    refine allp_mild 0 rfl rfl rfl (fun a x W hout hin hP => ?_) ?_
    · have e6 := hin.is 3 6 (by kernel_rfl) (by decide) (by kernel_rfl) (by kernel_rfl) _ rfl
      have e11 := hin.is 8 11 (by kernel_rfl) (by decide) (by kernel_rfl) (by kernel_rfl) _ rfl
      clear hin hout
      intro K Q hK
      go_simp
      exact hK _ _ ⟨Same.refl _, rfl⟩
    refine allp_mild 0 rfl rfl rfl (fun a x W hout hin hP => ?_) ?_
    · have e12 := hin.is 9 12 (by kernel_rfl) (by decide) (by kernel_rfl) (by kernel_rfl) _ rfl
      exact does_assign rfl e12 ⟨Same.refl _, rfl⟩
    exact all_end (by decide)
  · intro x W hP hV
    have hb := hP.1
    have h10 : x 10 = .int .u16 (hd (sv o q)) := hV 10 (by decide) (.inl (by kernel_rfl))
    clear hP hV
    simp only [putL, Act.put, List.setIfInBounds_toArray, List.set_cons_succ, List.set_cons_zero, h10]
    refine wpAnyH_done (by kernel_rfl) ?_ _
    clear h10
    go_wp2_with fail
    go_ret
    exact ⟨rfl, hb⟩
set_option maxHeartbeats 800000 in
theorem long_any (g o len c : Nat) (t : TypeId) (q : List (BitVec 8)) (w : World) (hR : Row w g t (bs q)) (ha : o + 4 ≤ q.length) (hl : 4 ≤ len) (hc : len ≤ c) :
    Calls Tryd.prog 41 #[.slice (some ⟨g, o, none⟩) len c] w fun e w' => e = .returned (.int .u32 (wd (lv o q))) ∧ Below w.heap.size w w' := by
  have hl2 : (2 : Int) ≤ (len : Int) := by omega
  have hc2 : (len : Int) ≤ (c : Int) := by omega
  have hcc : (2 : Int) ≤ (c : Int) := by omega
  have hne : ¬ c = 2 := by omega
  have hn2 : 2 ≤ len := by omega
  have hn3 : 2 ≤ c := by omega
  have H0 : Hid (o + 2 ≤ q.length ∧ 2 ≤ len) := Lib.hid ⟨by omega, by omega⟩
  have H2 : Hid (o + 2 + 2 ≤ q.length ∧ 2 ≤ len - 2) := Lib.hid ⟨by omega, by omega⟩
  clear ha hl hc
  have hF0 : Wl [fun W => Below w.heap.size w W ∧ Row W g t (bs q)] 0 w.drew := ⟨(Below.refl _ _).drew, hR⟩
  clear hR
  go_enter Tryd.func41, Tryd.ntmps41
  go_upto_region 1 with fail
  refine wp_region_phs [is (.slice (some ⟨g, o, none⟩) len c), is (.int .u16 (hd (sv o q))), is (.int .u32 (wd ((sv o q).setWidth 32))), is (.slice (some ⟨g, o, none⟩) len c), is (.slice (some ⟨g, o + 2, none⟩) (len - 2) (c - 2)), is (.int .u16 (hd (sv (o + 2) q))), is (.int .u32 (wd ((sv (o + 2) q).setWidth 32))), is (.int .u32 (wd (((sv (o + 2) q).setWidth 32) <<< 16))), is (.int .u32 (wd (lv o q))), is (.int .u32 (wd (lv o q)))] [true, true, true, true, true, true, true, true, true, true] [(fun W => Below w.heap.size w W ∧ Row W g t (bs q))] [false, false, false, false, false, false, false, false, false, false] [some 0, some 0, some 0, some 0, some 0, some 0, some 0, some 0, some 0, some 0] [some 3, some 4, some 5, some 6, some 7, some 8, some 9, some 10, some 11, some 2] 10 0 (fun _ => true) rfl rfl (by kernel_rfl) (by kernel_rfl) (by kernel_rfl) (by kernel_rfl) ?_ ?_ ?_ ?_ ?_ ?_
  · repeat first | exact wok_nil | refine wok_cons (by first | exact fun _ _ h k => ⟨h.1.trans (k.mono h.1.size), h.2.call k⟩) ?_
  · repeat first | exact vok_nil | refine vok_rig (by first | exact fun _ _ _ h => h) ?_ | refine vok_soft (by first | exact fun _ _ _ h _ => h) ?_
  · exact hF0
  · repeat first | exact all_end (by decide) | refine all_cons (by first | exact rfl | exact ⟨rfl, fun _ _ h => Or.inl h⟩ | exact ⟨rfl, fun _ _ h => Or.inr ⟨h, rfl⟩⟩) ?_
  · refine allp_mild 0 rfl rfl rfl (fun a x W hout hin hP => ?_) ?_
    · have e0 : a.tmps[0]? = some (.slice (some ⟨g, o, none⟩) len c) := (hout 0 (by kernel_rfl)).trans rfl
      exact does_move rfl e0 ⟨Same.refl _, rfl⟩
    refine allp_mild 0 rfl rfl rfl (fun a x W hout hin hP => ?_) ?_
    · have e3 := hin.is 0 3 (by kernel_rfl) (by decide) (by kernel_rfl) (by kernel_rfl) _ rfl
      have C := short_any g o len c t q W hP.2 H0.out.1 H0.out.2
      clear hP
      clear hin hout
      intro K Q hK
      go_simp
      refine C.mono ?_
      rintro e W' ⟨rfl, hb⟩
      exact hK _ _ ⟨hb, rfl⟩
    refine allp_mild 0 rfl rfl rfl (fun a x W hout hin hP => ?_) ?_
    · have e4 := hin.is 1 4 (by kernel_rfl) (by decide) (by kernel_rfl) (by kernel_rfl) _ rfl
      clear hin hout
      intro K Q hK
      go_simp
      exact hK _ _ ⟨Same.refl _, rfl⟩
    refine allp_mild 0 rfl rfl rfl (fun a x W hout hin hP => ?_) ?_
    · have e0 : a.tmps[0]? = some (.slice (some ⟨g, o, none⟩) len c) := (hout 0 (by kernel_rfl)).trans rfl
      exact does_move rfl e0 ⟨Same.refl _, rfl⟩
    refine allp_mild 0 rfl rfl rfl (fun a x W hout hin hP => ?_) ?_
    · have e6 := hin.is 3 6 (by kernel_rfl) (by decide) (by kernel_rfl) (by kernel_rfl) _ rfl
      clear hin hout
      intro K Q hK
      go_simp
      exact hK _ _ ⟨Same.refl _, rfl⟩
    refine allp_mild 0 rfl rfl rfl (fun a x W hout hin hP => ?_) ?_
    · have e7 := hin.is 4 7 (by kernel_rfl) (by decide) (by kernel_rfl) (by kernel_rfl) _ rfl
      have C := short_any g (o + 2) (len - 2) (c - 2) t q W hP.2 H2.out.1 H2.out.2
      clear hP
      clear hin hout
      intro K Q hK
      go_simp
      refine C.mono ?_
      rintro e W' ⟨rfl, hb⟩
      exact hK _ _ ⟨hb, rfl⟩
    refine allp_mild 0 rfl rfl rfl (fun a x W hout hin hP => ?_) ?_
    · have e8 := hin.is 5 8 (by kernel_rfl) (by decide) (by kernel_rfl) (by kernel_rfl) _ rfl
      clear hin hout
      intro K Q hK
      go_simp
      exact hK _ _ ⟨Same.refl _, rfl⟩
    refine allp_mild 0 rfl rfl rfl (fun a x W hout hin hP => ?_) ?_
    · have e9 := hin.is 6 9 (by kernel_rfl) (by decide) (by kernel_rfl) (by kernel_rfl) _ rfl
      clear hin hout
      intro K Q hK
      go_simp
      exact hK _ _ ⟨Same.refl _, rfl⟩
    refine allp_mild 0 rfl rfl rfl (fun a x W hout hin hP => ?_) ?_
    · have e5 := hin.is 2 5 (by kernel_rfl) (by decide) (by kernel_rfl) (by kernel_rfl) _ rfl
      have e10 := hin.is 7 10 (by kernel_rfl) (by decide) (by kernel_rfl) (by kernel_rfl) _ rfl
      clear hin hout
      intro K Q hK
      go_simp
      exact hK _ _ ⟨Same.refl _, rfl⟩
    refine allp_mild 0 rfl rfl rfl (fun a x W hout hin hP => ?_) ?_
    · have e11 := hin.is 8 11 (by kernel_rfl) (by decide) (by kernel_rfl) (by kernel_rfl) _ rfl
      exact does_assign rfl e11 ⟨Same.refl _, rfl⟩
    exact all_end (by decide)
  · intro x W hP hV
    have hb := hP.1
    have h10 : x 9 = .int .u32 (wd (lv o q)) := hV 9 (by decide) (.inl (by kernel_rfl))
    clear hP hV
    simp only [putL, Act.put, List.setIfInBounds_toArray, List.set_cons_succ, List.set_cons_zero, h10]
    refine wpAnyH_done (by kernel_rfl) ?_ _
    clear h10
    go_wp2_with fail
    go_ret
    exact ⟨rfl, hb⟩
theorem le4 (v : BitVec 32) : le v 4 = [(v.setWidth 16).setWidth 8, ((v.setWidth 16) >>> 8).setWidth 8, ((v >>> 16).setWidth 16).setWidth 8, (((v >>> 16).setWidth 16) >>> 8).setWidth 8] := by
  have e : le v 4 = [(v >>> (8 * 0)).setWidth 8, (v >>> (8 * 1)).setWidth 8, (v >>> (8 * 2)).setWidth 8, (v >>> (8 * 3)).setWidth 8] := rfl
  rw [e]
  have := v.isLt
  have h0 : (v >>> (8 * 0)).setWidth 8 = (v.setWidth 16).setWidth 8 := BitVec.eq_of_toNat_eq (by simp only [BitVec.toNat_setWidth, BitVec.toNat_ushiftRight, Nat.shiftRight_eq_div_pow]; omega)
  have h1 : (v >>> (8 * 1)).setWidth 8 = ((v.setWidth 16) >>> 8).setWidth 8 := BitVec.eq_of_toNat_eq (by simp only [BitVec.toNat_setWidth, BitVec.toNat_ushiftRight, Nat.shiftRight_eq_div_pow]; omega)
  have h2 : (v >>> (8 * 2)).setWidth 8 = ((v >>> 16).setWidth 16).setWidth 8 := BitVec.eq_of_toNat_eq (by simp only [BitVec.toNat_setWidth, BitVec.toNat_ushiftRight, Nat.shiftRight_eq_div_pow]; omega)
  have h3 : (v >>> (8 * 3)).setWidth 8 = (((v >>> 16).setWidth 16) >>> 8).setWidth 8 := BitVec.eq_of_toNat_eq (by simp only [BitVec.toNat_setWidth, BitVec.toNat_ushiftRight, Nat.shiftRight_eq_div_pow]; omega)
  rw [h0, h1, h2, h3]
theorem le2 (d : BitVec 16) : le (d.setWidth 32) 2 = [d.setWidth 8, (d >>> 8).setWidth 8] := by
  have e : le (d.setWidth 32) 2 = [((d.setWidth 32) >>> (8 * 0)).setWidth 8, ((d.setWidth 32) >>> (8 * 1)).setWidth 8] := rfl
  rw [e]
  have := d.isLt
  have h0 : ((d.setWidth 32) >>> (8 * 0)).setWidth 8 = d.setWidth 8 := BitVec.eq_of_toNat_eq (by simp only [BitVec.toNat_setWidth, BitVec.toNat_ushiftRight, Nat.shiftRight_eq_div_pow]; omega)
  have h1 : ((d.setWidth 32) >>> (8 * 1)).setWidth 8 = (d >>> 8).setWidth 8 := BitVec.eq_of_toNat_eq (by simp only [BitVec.toNat_setWidth, BitVec.toNat_ushiftRight, Nat.shiftRight_eq_div_pow]; omega)
  rw [h0, h1]
theorem num2 (x y : BitVec 8) : (num [x, y]).setWidth 16 = x.setWidth 16 ||| (y.setWidth 16) <<< 8 := by
  have e := (halves ((num [x, y]).setWidth 16) x y).1
  refine (e ⟨?_, ?_⟩).symm
  · apply BitVec.eq_of_toNat_eq
    simp only [num, List.foldr_cons, List.foldr_nil, BitVec.toNat_setWidth, BitVec.toNat_add, BitVec.toNat_shiftLeft, Nat.shiftLeft_eq, BitVec.toNat_ofNat]
    have := x.isLt; have := y.isLt; omega
  · apply BitVec.eq_of_toNat_eq
    simp only [num, List.foldr_cons, List.foldr_nil, BitVec.toNat_setWidth, BitVec.toNat_ushiftRight, Nat.shiftRight_eq_div_pow, BitVec.toNat_add, BitVec.toNat_shiftLeft, Nat.shiftLeft_eq, BitVec.toNat_ofNat]
    have := x.isLt; have := y.isLt; omega
theorem num22 (a b : BitVec 16) : (a.setWidth 32 ||| (b.setWidth 32) <<< 16).toNat = b.toNat * 65536 + a.toNat := by
  have ha := a.isLt; have hb := b.isLt
  rw [BitVec.toNat_or, BitVec.toNat_shiftLeft, BitVec.toNat_setWidth, BitVec.toNat_setWidth, Nat.mod_eq_of_lt (show a.toNat < 2 ^ 32 by omega), Nat.mod_eq_of_lt (show b.toNat < 2 ^ 32 by omega),
    Nat.mod_eq_of_lt (show b.toNat <<< 16 < 2 ^ 32 by rw [Nat.shiftLeft_eq]; omega), Nat.or_comm, ← Nat.shiftLeft_add_eq_or_of_lt (show a.toNat < 2 ^ 16 by omega), Nat.shiftLeft_eq]
theorem num2N (x y : BitVec 8) : (x.setWidth 16 ||| (y.setWidth 16) <<< 8).toNat = y.toNat * 256 + x.toNat := by
  rw [← num2]
  simp only [num, List.foldr_cons, List.foldr_nil, BitVec.toNat_setWidth, BitVec.toNat_add, BitVec.toNat_shiftLeft, Nat.shiftLeft_eq, BitVec.toNat_ofNat]
  have := x.isLt; have := y.isLt; omega
theorem num4w (x y z u : BitVec 8) : (x.setWidth 16 ||| (y.setWidth 16) <<< 8).setWidth 32 ||| ((z.setWidth 16 ||| (u.setWidth 16) <<< 8).setWidth 32) <<< 16 = num [x, y, z, u] := by
  apply BitVec.eq_of_toNat_eq
  rw [num22, num2N, num2N]
  simp only [num, List.foldr_cons, List.foldr_nil, BitVec.toNat_setWidth, BitVec.toNat_add, BitVec.toNat_shiftLeft, Nat.shiftLeft_eq, BitVec.toNat_ofNat]
  have := x.isLt; have := y.isLt; have := z.isLt; have := u.isLt; omega
theorem piece4 (q : List (BitVec 8)) (o : Nat) (h : o + 4 ≤ q.length) : (q.drop o).take 4 = [q.getD o 0#8, q.getD (o + 1) 0#8, q.getD (o + 2) 0#8, q.getD (o + 2 + 1) 0#8] := by
  have g : ∀ k, o + k < q.length → q.getD (o + k) 0#8 = (q.drop o).getD k 0#8 := fun k hk => by rw [List.getD_eq_getElem?_getD, List.getD_eq_getElem?_getD, List.getElem?_drop]
  have hl : 4 ≤ (q.drop o).length := by rw [List.length_drop]; omega
  rw [show q.getD o 0#8 = q.getD (o + 0) 0#8 from rfl, show o + 2 + 1 = o + 3 from rfl, g 0 (by omega), g 1 (by omega), g 2 (by omega), g 3 (by omega)]
  match q.drop o, hl with
  | a :: b :: c :: d :: r, _ => rfl
theorem piece2 (q : List (BitVec 8)) (o : Nat) (h : o + 2 ≤ q.length) : (q.drop o).take 2 = [q.getD o 0#8, q.getD (o + 1) 0#8] := by
  have g : ∀ k, o + k < q.length → q.getD (o + k) 0#8 = (q.drop o).getD k 0#8 := fun k hk => by rw [List.getD_eq_getElem?_getD, List.getD_eq_getElem?_getD, List.getElem?_drop]
  have hl : 2 ≤ (q.drop o).length := by rw [List.length_drop]; omega
  rw [show q.getD o 0#8 = q.getD (o + 0) 0#8 from rfl, g 0 (by omega), g 1 (by omega)]
  match q.drop o, hl with
  | a :: b :: r, _ => rfl
theorem four_le (v : BitVec 32) : four v = le v 4 := by rw [le4]; rfl
theorem two_le (d : BitVec 16) : two d = le (d.setWidth 32) 2 := by rw [le2]; rfl
theorem lv_num (q : List (BitVec 8)) (o : Nat) (h : o + 4 ≤ q.length) : lv o q = num ((q.drop o).take 4) := by rw [piece4 q o h]; exact num4w _ _ _ _
theorem sv_num (q : List (BitVec 8)) (o : Nat) (h : o + 2 ≤ q.length) : sv o q = (num ((q.drop o).take 2)).setWidth 16 := by rw [piece2 q o h, num2]; rfl
theorem two_or (x y : BitVec 8) : two (x.setWidth 16 ||| (y.setWidth 16) <<< 8) = [x, y] := by
  obtain ⟨h1, h2⟩ := (halves (x.setWidth 16 ||| (y.setWidth 16) <<< 8) x y).2 rfl
  unfold two; rw [h1, h2]
theorem low16 (a b : BitVec 16) : (a.setWidth 32 ||| (b.setWidth 32) <<< 16).setWidth 16 = a := by
  apply BitVec.eq_of_toNat_eq
  rw [BitVec.toNat_setWidth, num22]
  have := a.isLt; omega
theorem high16 (a b : BitVec 16) : ((a.setWidth 32 ||| (b.setWidth 32) <<< 16) >>> 16).setWidth 16 = b := by
  apply BitVec.eq_of_toNat_eq
  rw [BitVec.toNat_setWidth, BitVec.toNat_ushiftRight, num22, Nat.shiftRight_eq_div_pow]
  have := a.isLt; have := b.isLt; omega
theorem le_lv (q : List (BitVec 8)) (o : Nat) (h : o + 4 ≤ q.length) : le (lv o q) 4 = (q.drop o).take 4 := by
  rw [← four_le, piece4 q o h]
  unfold four lv
  rw [low16, high16]
  unfold sv
  rw [two_or, two_or]; rfl
theorem le_sv (q : List (BitVec 8)) (o : Nat) (h : o + 2 ≤ q.length) : le ((sv o q).setWidth 32) 2 = (q.drop o).take 2 := by
  rw [← two_le, piece2 q o h]
  unfold sv
  rw [two_or]
end Go.Proofs.YtobklbfcnbmnmaaDoor

/- The program's token: a claim's bytes, a token's. -/
set_option maxRecDepth 4000
namespace Go.Proofs.YtobklbfcnbmnmaaDoor
open Go Go.RowKit
theorem size_clm : (Tryd.prog.info? 24).map (·.size) = some 5 := by kernel_rfl
theorem tok_clm (c : Clm) (t : List (BitVec 8)) : ((tokCells c t).toList.drop 0).take (clmCells c).size = (clmCells c).toList := by
  unfold tokCells
  rw [List.drop_zero, Array.toList_append]
  exact List.take_left' (by simp)
theorem tok_slice {w : World} {g : Nat} {t : TypeId} {c : Clm} {q : List (BitVec 8)} (h : Row w g t (tokCells c q)) (hq : q.length = 32) : Slice w (.slice (some ⟨g, 5, none⟩) 32 32) q := by
  refine ⟨some ⟨g, 5, none⟩, 32, by rw [hq], by rw [hq]; exact Nat.le_refl _, fun _ => ⟨g, 5, rfl, h.lt, fun j x hx => ?_⟩⟩
  refine h.get ?_
  unfold tokCells
  rw [Array.getElem?_append_right (by show 5 ≤ 5 + j; omega), show 5 + j - (clmCells c).size = j from by show 5 + j - 5 = j; omega]
  simp [bs, hx]
theorem clmB_eq (c : Clm) : clmB c = [byteI c.p] ++ padN c.n ++ [byteI c.r] ++ four c.u ++ four c.g := by unfold clmB; rw [four_le, four_le]; simp
set_option maxHeartbeats 800000 in
theorem claim_bad (c : Clm) (w : World) (hm : c.n.length ≤ maxLen) (hc : mayC c = false) : Calls Tryd.prog 27 #[.agg (clmCells c)] w fun e w' => e = .returned (.tuple #[.slice none 0 0, .int .i64 11]) ∧ Below w.heap.size w w' := by
  have C := Lib.hid (fun W => maybe_any c W hm)
  rw [hc] at C
  clear hm hc
  have HS := St.nil w noF
  go_enter Tryd.func27, Tryd.ntmps27
  go_wp2_with (first | ((with_reducible refine wpList_plain ?_ ?_); exact rfl; intro KK hKK; refine wp_st_box HS 24 (.tmp 0) rfl _ rfl (clmCells c) (rfl) (fun g1 W1 HSx => hKK _ _ ?_); clear hKK KK HS; have HS : St w noF [⟨g1, 24, clmCells c⟩] W1 := HSx; clear HSx) | ((with_reducible refine wpList_plain ?_ ?_); exact rfl; intro KK hKK; refine wp_st_load HS 0 0 24 (.tmp 1) rfl rfl rfl (clmCells c) (slab_whole _) _ Tryd.underlying24 rfl (by exact size_clm) (hKK _ _ ?_); clear hKK KK))
  refine (C.out _).mono ?_
  rintro e w1 ⟨rfl, hb⟩
  have HSx := HS.same hb
  clear HS hb C
  go_wp2_with fail
  go_ret2
  exact ⟨rfl, HSx.below⟩
set_option maxHeartbeats 1600000 in
theorem claim_good (c : Clm) (w : World) (hm : c.n.length ≤ maxLen) (hc : mayC c = true) : Calls Tryd.prog 27 #[.agg (clmCells c)] w fun e w' => ∃ v, e = .returned (.tuple #[v, .int .i64 0]) ∧ w'.ownsRow w.heap.size 5 1 v (clmB c).length (bytesV (clmB c)) ∧ Below w.heap.size w w' := by
  have C := Lib.hid (fun W => maybe_any c W hm)
  rw [hc] at C
  clear hm hc
  have HEQ := Lib.hid (clmB_eq c)
  have HS := St.nil w noF
  go_enter Tryd.func27, Tryd.ntmps27
  go_wp2_with (first | ((with_reducible refine wpList_plain ?_ ?_); exact rfl; intro KK hKK; refine wp_st_box HS 24 (.tmp 0) rfl _ rfl (clmCells c) (rfl) (fun g1 W1 HSx => hKK _ _ ?_); clear hKK KK HS; have HS : St w noF [⟨g1, 24, clmCells c⟩] W1 := HSx; clear HSx) | ((with_reducible refine wpList_plain ?_ ?_); exact rfl; intro KK hKK; refine wp_st_load HS 0 0 24 (.tmp 1) rfl rfl rfl (clmCells c) (slab_whole _) _ Tryd.underlying24 rfl (by exact size_clm) (hKK _ _ ?_); clear hKK KK))
  refine (C.out _).mono ?_
  rintro e w1 ⟨rfl, hb⟩
  have HSx := HS.same hb
  clear HS hb C
  have HS := HSx
  clear HSx
  have c1 : w1.cell? ⟨g1, 1, none⟩ = some (.string (strB c.n)) := (HS.row 0 rfl).get rfl
  go_wp2_with fail
  refine (pad_any c.n _).mono ?_
  rintro e w2 ⟨rfl, hb⟩
  have HSx := HS.same hb
  clear HS hb c1
  have HS := HSx
  clear HSx
  go_upto_region 4 with (first | ((with_reducible refine wpList_plain ?_ ?_); exact rfl; intro KK hKK; refine wp_st_alloc HS 50 (bs (zer 4)) rfl (.agg (bs (zer 4))) (by kernel_rfl) (rfl) (fun g4 W11 HSx => hKK _ _ ?_); clear hKK KK HS; have HS : St w noF [⟨g1, 24, clmCells c⟩, ⟨g4, 50, bs (zer 4)⟩] W11 := HSx; clear HSx) | ((with_reducible refine wpList_plain ?_ ?_); exact rfl; intro KK hKK; refine wp_st_store HS 1 0 50 (.tmp 4) (.tmp 11) rfl rfl rfl (.agg (bs (padN c.n))) rfl (by rw [show Value.cells (.agg (bs (padN c.n))) = bs (padN c.n) from rfl, size_bs, length_padN]; exact size_b4) (by rw [show Value.cells (.agg (bs (padN c.n))) = bs (padN c.n) from rfl, size_bs, length_padN, size_bs, length_zer]; decide) (by exact one_bs _) (bs (padN c.n)) (spl_agg _ _ _ rfl (by rw [size_bs, size_bs, length_padN, length_zer])) (fun W12 HSx => hKK _ _ ?_); clear hKK KK HS; have HS : St w noF [⟨g1, 24, clmCells c⟩, ⟨g4, 50, bs (padN c.n)⟩] W12 := HSx; clear HSx))
  obtain ⟨B0, hB0⟩ : ∃ B0, W12.heap.size = B0 := ⟨_, rfl⟩
  have HB0 := Lib.hid hB0
  have HSW := Lib.hid HS
  have c0 : W12.cell? ⟨g1, 0, none⟩ = some (.int .i64 c.p) := (HS.row 0 rfl).get rfl
  have hw0 : IntKind.u8.wrap c.p = bd (byteI c.p) := wrap_u8_bd c.p
  have OW := own_litq W12 [byteI c.p] (by unfold maxLen; simp)
  have HBA := Lib.hid ((Below.refl W12.heap.size W12).alloc (Nat.le_refl _) (.cells #[.int .u8 (bd (byteI c.p))] 5))
  clear HS
  rw [hB0] at OW HBA
  have HOW : Hid ((W12.alloc (.cells #[.int .u8 (bd (byteI c.p))] 5)).ownsRow B0 5 1 (.slice (some ⟨B0, 0, none⟩) 1 1) [byteI c.p].length (bytesV [byteI c.p])) := Lib.hid OW
  clear OW hB0
  go_upto_region 5 with fail
  rw [HB0.out]
  generalize W12.alloc (.cells #[.int .u8 (bd (byteI c.p))] 5) = W13 at *
  have HS13 := Lib.hid (HSW.out.same (by rw [HB0.out]; exact HBA.out))
  have HP4 : Hid (Slice W13 (.slice (some ⟨g4, 0, none⟩) 4 4) (padN c.n)) := Lib.hid (by
    have := row_slice (HS13.out.row 1 rfl) (c := 4) (by rw [length_padN]; decide)
    rwa [length_padN] at this)
  clear c0 hw0
  go_upto_region 6 with (at_builtin; refine wpList_append_slice rfl (.tmp 16) (.tmp 17) rfl B0 _ 1 _ rfl HOW.out (some ⟨g4, 0, none⟩) 4 4 _ rfl HP4.out (fun h => by cases h) (by decide) (Nat.le_trans (Nat.le_of_eq HB0.out.symm) HBA.out.size) ?_; intro v5 W14 own5 hb5; rw [← bytesV_apps] at own5; have HO5 := Lib.hid own5; have HB5 := Lib.hid (HBA.out.trans hb5); clear own5 hb5 HOW HP4 HS13 HBA)
  have HS14 := Lib.hid (HSW.out.same (by rw [HB0.out]; exact HB5.out))
  have c2 : W14.cell? ⟨g1, 2, none⟩ = some (.int .i64 c.r) := (HS14.out.row 0 rfl).get rfl
  have hw0 : IntKind.u8.wrap c.r = bd (byteI c.r) := wrap_u8_bd c.r
  have HP5 : Hid (Slice (W14.alloc (.cells #[.int .u8 (bd (byteI c.r))] 5)) (.slice (some ⟨W14.heap.size, 0, none⟩) 1 1) [byteI c.r]) := Lib.hid (row_slice (Row.fresh W14 5 (bs [byteI c.r])) (c := 1) (Nat.le_refl _))
  have HO6 := Lib.hid (HO5.out.alloc (.cells #[.int .u8 (bd (byteI c.r))] 5))
  have HB6 := Lib.hid (HB5.out.alloc (by rw [← HB0.out]; exact HB5.out.size) (.cells #[.int .u8 (bd (byteI c.r))] 5))
  clear HO5 HS14
  go_upto_region 7 with (at_builtin; refine wpList_append_slice rfl (.tmp 19) (.tmp 23) rfl B0 _ 5 _ rfl HO6.out (some ⟨W14.heap.size, 0, none⟩) 1 1 _ rfl HP5.out (fun h => by cases h) (by decide) (Nat.le_trans (Nat.le_of_eq HB0.out.symm) HB6.out.size) ?_; intro v6 W15 own6 hb6; rw [← bytesV_apps] at own6; have HO7 := Lib.hid own6; have HB7 := Lib.hid (HB6.out.trans hb6); clear own6 hb6 HP5 HO6 HB6 c2 hw0)
  have HS15 := Lib.hid (HSW.out.same (by rw [HB0.out]; exact HB7.out))
  have c3 : W15.cell? ⟨g1, 3, none⟩ = some (.int .u32 (wd c.u)) := (HS15.out.row 0 rfl).get rfl
  have C := applong_any B0 ([byteI c.p] ++ padN c.n ++ [byteI c.r]) c.u v6 W15 (by rw [List.length_append, List.length_append, length_padN]; exact HO7.out) (Nat.le_trans (Nat.le_of_eq HB0.out.symm) HB7.out.size) (by rw [List.length_append, List.length_append, length_padN]; exact Nat.le_of_ble_eq_true rfl)
  clear HO7 HS15 HB5
  go_wp2_with fail
  refine C.mono ?_
  rintro e W16 ⟨v7, rfl, h7, b7⟩
  have HB8 := Lib.hid (HB7.out.trans b7)
  clear C c3 b7 HB7
  have HS16 := Lib.hid (HSW.out.same (by rw [HB0.out]; exact HB8.out))
  have c4 : W16.cell? ⟨g1, 4, none⟩ = some (.int .u32 (wd c.g)) := (HS16.out.row 0 rfl).get rfl
  have C := applong_any B0 ([byteI c.p] ++ padN c.n ++ [byteI c.r] ++ four c.u) c.g v7 W16 (by rw [List.length_append]; exact h7) (Nat.le_trans (Nat.le_of_eq HB0.out.symm) HB8.out.size) (by rw [List.length_append, List.length_append, List.length_append, length_padN]; exact Nat.le_of_ble_eq_true rfl)
  clear h7 HS16
  go_wp2_with fail
  refine C.mono ?_
  rintro e W17 ⟨v8, rfl, h8, b8⟩
  have HB9 := Lib.hid (HB8.out.trans b8)
  have HO8 := Lib.hid h8
  clear C c4 b8 HB8 h8
  go_wp2_with fail
  go_ret2
  have hz : w.heap.size ≤ B0 := by rw [← HB0.out]; exact HSW.out.below.size
  refine ⟨_, rfl, ?_, HSW.out.below.trans (HB9.out.mono hz)⟩
  rw [HEQ.out]
  exact own_base (by rw [List.length_append]; exact HO8.out) hz
set_option maxHeartbeats 800000 in
theorem tokenc_bad (c : Clm) (t : List (BitVec 8)) (w : World) (hm : c.n.length ≤ maxLen) (hc : mayC c = false) : Calls Tryd.prog 14 #[.agg (tokCells c t)] w fun e w' => e = .returned (.tuple #[.slice none 0 0, .int .i64 11]) ∧ Below w.heap.size w w' := by
  have C := Lib.hid (fun W => claim_bad c W hm hc)
  have HSZ : Hid (((tokCells c t).toList.drop 0).take (clmCells c).size = (clmCells c).toList) := Lib.hid (tok_clm c t)
  clear hm hc
  have HS := St.nil w noF
  go_enter Tryd.func14, Tryd.ntmps14
  go_wp2_with (first | ((with_reducible refine wpList_plain ?_ ?_); exact rfl; intro KK hKK; refine wp_st_box HS 28 (.tmp 0) rfl _ rfl (tokCells c t) (rfl) (fun g1 W1 HSx => hKK _ _ ?_); clear hKK KK HS; have HS : St w noF [⟨g1, 28, tokCells c t⟩] W1 := HSx; clear HSx) | ((with_reducible refine wpList_plain ?_ ?_); exact rfl; intro KK hKK; refine wp_st_load HS 0 0 24 (.tmp 7) rfl rfl rfl (clmCells c) (HSZ.out) _ Tryd.underlying24 rfl (by exact size_clm) (hKK _ _ ?_); clear hKK KK))
  refine (C.out _).mono ?_
  rintro e w1 ⟨rfl, hb⟩
  have HSx := HS.same hb
  clear HS hb C
  go_wp2_with fail
  go_ret2
  exact ⟨rfl, HSx.below⟩
set_option maxHeartbeats 800000 in
theorem tokenc_good (c : Clm) (t : List (BitVec 8)) (w : World) (ht : t.length = 32) (hm : c.n.length ≤ maxLen) (hc : mayC c = true) : Calls Tryd.prog 14 #[.agg (tokCells c t)] w fun e w' => ∃ v, e = .returned (.tuple #[v, .int .i64 0]) ∧ w'.ownsRow w.heap.size 5 1 v (clmB c ++ t).length (bytesV (clmB c ++ t)) ∧ Below w.heap.size w w' := by
  have C := Lib.hid (fun W => claim_good c W hm hc)
  have HSZ : Hid (((tokCells c t).toList.drop 0).take (clmCells c).size = (clmCells c).toList) := Lib.hid (tok_clm c t)
  have HTL := Lib.hid ht
  have HCL := Lib.hid (length_clmB c)
  clear hm hc ht
  have HS := St.nil w noF
  go_enter Tryd.func14, Tryd.ntmps14
  go_wp2_with (first | ((with_reducible refine wpList_plain ?_ ?_); exact rfl; intro KK hKK; refine wp_st_box HS 28 (.tmp 0) rfl _ rfl (tokCells c t) (rfl) (fun g1 W1 HSx => hKK _ _ ?_); clear hKK KK HS; have HS : St w noF [⟨g1, 28, tokCells c t⟩] W1 := HSx; clear HSx) | ((with_reducible refine wpList_plain ?_ ?_); exact rfl; intro KK hKK; refine wp_st_load HS 0 0 24 (.tmp 7) rfl rfl rfl (clmCells c) (HSZ.out) _ Tryd.underlying24 rfl (by exact size_clm) (hKK _ _ ?_); clear hKK KK))
  obtain ⟨B0, hB0⟩ : ∃ B0, W1.heap.size = B0 := ⟨_, rfl⟩
  refine (C.out W1).mono ?_
  rintro e w1 ⟨v1, rfl, ho, hb⟩
  have HB0 := Lib.hid hB0
  have HSW := Lib.hid HS
  rw [hB0, HCL.out] at ho
  rw [hB0] at hb
  have HO1 := Lib.hid ho
  have HB1 := Lib.hid hb
  clear ho hb hB0 C HS
  have HT : Hid (Slice w1 (.slice (some ⟨g1, 5, none⟩) 32 32) t) := Lib.hid (by
    have hr : Row w1 g1 28 (tokCells c t) := (HSW.out.same (by rw [HB0.out]; exact HB1.out)).row 0 rfl
    exact tok_slice hr HTL.out)
  go_wp2_with (at_builtin; refine wpList_append_slice rfl (.tmp 15) (.tmp 17) rfl B0 _ 14 _ rfl HO1.out (some ⟨g1, 5, none⟩) 32 32 _ rfl HT.out (fun h => by cases h) (by decide) (Nat.le_trans (Nat.le_of_eq HB0.out.symm) HB1.out.size) ?_; intro v5 W14 own5 hb5; rw [← bytesV_apps] at own5; have HO5 := Lib.hid own5; have HB5 := Lib.hid (HB1.out.trans hb5); clear own5 hb5 HO1 HT HB1)
  go_ret2
  have hz : w.heap.size ≤ B0 := by rw [← HB0.out]; exact HSW.out.below.size
  exact ⟨_, rfl, own_base (by rw [List.length_append, HCL.out, HTL.out]; exact HO5.out) hz, HSW.out.below.trans (HB5.out.mono hz)⟩
end Go.Proofs.YtobklbfcnbmnmaaDoor

/- Numbers that slices begin with, as the program's lowfirst reads them. -/
set_option maxRecDepth 4000
namespace Go.Proofs.YtobklbfcnbmnmaaDoor
open Go Go.RowKit
/- block g holds q from offset a on -/
structure BAt (w : World) (g o : Nat) (q : List (BitVec 8)) : Prop where
  lt : g < w.heap.size
  at_ : ∀ (j : Nat) (x : BitVec 8), q[j]? = some x → w.cell? ⟨g, o + j, none⟩ = some (.int .u8 (bd x))
theorem BAt.below {w w' : World} {g o B : Nat} {q : List (BitVec 8)} (h : BAt w g o q) (hb : Below B w w') (hg : g < B) : BAt w' g o q := ⟨Nat.lt_of_lt_of_le h.lt hb.size, fun j x hx => (hb.cell (p := ⟨g, o + j, none⟩) hg).trans (h.at_ j x hx)⟩
theorem BAt.call {w w' : World} {g o : Nat} {q : List (BitVec 8)} (h : BAt w g o q) (hb : Below w.heap.size w w') : BAt w' g o q := h.below hb h.lt
theorem BAt.get {w : World} {g o : Nat} {q : List (BitVec 8)} (h : BAt w g o q) (j : Nat) (hj : j < q.length) : w.cell? ⟨g, o + j, none⟩ = some (.int .u8 (bd (q.getD j 0#8))) :=
  h.at_ j _ (by rw [List.getD_eq_getElem?_getD, List.getElem?_eq_getElem hj]; rfl)
theorem BAt.drop {w : World} {g o : Nat} {q : List (BitVec 8)} (h : BAt w g o q) (k : Nat) : BAt w g (o + k) (q.drop k) := ⟨h.lt, fun j x hx => by
  rw [List.getElem?_drop] at hx
  rw [Nat.add_assoc]
  exact h.at_ (k + j) x hx⟩
theorem BAt.take {w : World} {g o : Nat} {q : List (BitVec 8)} (h : BAt w g o q) (k : Nat) : BAt w g o (q.take k) := ⟨h.lt, fun j x hx => by
  refine h.at_ j x ?_
  by_cases hj : j < k
  · rw [List.getElem?_take_of_lt hj] at hx; exact hx
  · rw [List.getElem?_eq_none (by rw [List.length_take]; omega)] at hx; cases hx⟩
theorem BAt.slice {w : World} {g o c : Nat} {q : List (BitVec 8)} (h : BAt w g o q) {n : Nat} (hn : q.length = n) (hc : n ≤ c) : Slice w (.slice (some ⟨g, o, none⟩) n c) q :=
  ⟨_, c, by rw [hn], by rw [hn]; exact hc, fun _ => ⟨g, o, rfl, h.lt, h.at_⟩⟩
theorem slice_bat {w : World} {A : Option Addr} {n c : Nat} {q : List (BitVec 8)} (h : Slice w (.slice A n c) q) (hq : 0 < q.length) : ∃ g o, A = some ⟨g, o, none⟩ ∧ BAt w g o q ∧ q.length ≤ c := by
  obtain ⟨A', c', e, h2, h3⟩ := h
  injection e with e1 _ e3
  subst e1 e3
  obtain ⟨g, o, h4, h5, h6⟩ := h3 (by intro e; rw [e] at hq; simp at hq)
  exact ⟨g, o, h4, ⟨h5, h6⟩, h2⟩
theorem Row.bat {w : World} {g : Nat} {t : TypeId} {q : List (BitVec 8)} (h : Row w g t (bs q)) : BAt w g 0 q := ⟨h.lt, fun j x hx => by rw [Nat.zero_add]; exact h.get (by simp [bs, hx])⟩
theorem i64_bd (x : BitVec 8) : IntKind.i64.wrap (bd x) = bd x := i64_id _ (by have := bd_lo x; omega) (by have := bd_hi x; omega)
theorem BAt.range {w : World} {g o : Nat} {q : List (BitVec 8)} (h : BAt w g o q) (k n : Nat) (_ : k + n ≤ q.length) : w.rangeAt g (o + k) (bytesV ((q.drop k).take n)) := fun j v hv => by
  simp only [bytesV, List.getElem?_map, Option.map_eq_some_iff] at hv
  obtain ⟨x, hx, rfl⟩ := hv
  exact ((h.drop k).take n).at_ j x hx
theorem BAt.far {w w' : World} {g o k : Nat} {q : List (BitVec 8)} (h : BAt w g o q) (hg : w.grownBy w' (some k)) (hne : g ≠ k) : BAt w' g o q :=
  ⟨Nat.lt_of_lt_of_le h.lt hg.size, fun j x hx => (hg.cell_far ⟨g, o + j, none⟩ h.lt (by simpa using hne)).trans (h.at_ j x hx)⟩
theorem slice_at {w : World} {g o n c : Nat} {q : List (BitVec 8)} (h : Slice w (.slice (some ⟨g, o, none⟩) n c) q) (hq : 0 < q.length) : BAt w g o q := by
  obtain ⟨g', o', e, hb, _⟩ := slice_bat h hq
  injection e with e
  injection e with e1 e2
  subst e1 e2
  exact hb
attribute [local go_sem] lowb_hd lowb8_hd convb_hd shl8_hd or_hd lw16 lsh16 lwh or_wd shl16_wd
set_option maxHeartbeats 800000 in
theorem short_at (g o len c : Nat) (q : List (BitVec 8)) (w : World) (hR : BAt w g o q) (ha : 2 ≤ q.length) (hl : 2 ≤ len) :
    Calls Tryd.prog 43 #[.slice (some ⟨g, o, none⟩) len c] w fun e w' => e = .returned (.int .u16 (hd (sv 0 q))) ∧ Below w.heap.size w w' := by
  have hl0 : (0 : Int) < (len : Int) := by omega
  have hl1 : (1 : Int) < (len : Int) := by omega
  have hn0 : 0 < len := by omega
  have hn1 : 1 < len := by omega
  have H0 : Hid (0 < q.length) := Lib.hid (by omega)
  have H1 : Hid (1 < q.length) := Lib.hid (by omega)
  clear ha hl
  have hF0 : Wl [fun W => Below w.heap.size w W ∧ BAt W g o q] 0 w.drew := ⟨(Below.refl _ _).drew, hR.call (Below.refl _ _).drew⟩
  clear hR
  go_enter Tryd.func43, Tryd.ntmps43
  go_upto_region 1 with fail
  refine wp_region_phs [is (.slice (some ⟨g, o, none⟩) len c), is (.pointer (some ⟨g, o, none⟩)), is (.int .u8 (bd (q.getD 0 0#8))), is (.int .u16 (hd ((q.getD 0 0#8).setWidth 16))), is (.slice (some ⟨g, o, none⟩) len c), is (.pointer (some ⟨g, o + 1, none⟩)), is (.int .u8 (bd (q.getD 1 0#8))), is (.int .u16 (hd ((q.getD 1 0#8).setWidth 16))), is (.int .u16 (hd (((q.getD 1 0#8).setWidth 16) <<< 8))), is (.int .u16 (hd (sv 0 q))), is (.int .u16 (hd (sv 0 q)))] [true, true, true, true, true, true, true, true, true, true, true] [(fun W => Below w.heap.size w W ∧ BAt W g o q)] [false, false, false, false, false, false, false, false, false, false, false] [some 0, some 0, some 0, some 0, some 0, some 0, some 0, some 0, some 0, some 0, some 0] [some 3, some 4, some 5, some 6, some 7, some 8, some 9, some 10, some 11, some 12, some 2] 11 0 (fun _ => true) rfl rfl (by kernel_rfl) (by kernel_rfl) (by kernel_rfl) (by kernel_rfl) ?_ ?_ ?_ ?_ ?_ ?_
  · repeat first | exact wok_nil | refine wok_cons (by first | exact fun _ _ h k => ⟨h.1.trans (k.mono h.1.size), h.2.call k⟩) ?_
  · repeat first | exact vok_nil | refine vok_rig (by first | exact fun _ _ _ h => h) ?_ | refine vok_soft (by first | exact fun _ _ _ h _ => h) ?_
  · exact hF0
  · repeat first | exact all_end (by decide) | refine all_cons (by first | exact rfl | exact ⟨rfl, fun _ _ h => Or.inl h⟩ | exact ⟨rfl, fun _ _ h => Or.inr ⟨h, rfl⟩⟩) ?_
  · refine allp_mild 0 rfl rfl rfl (fun a x W hout hin hP => ?_) ?_
    · have e0 : a.tmps[0]? = some (.slice (some ⟨g, o, none⟩) len c) := (hout 0 (by kernel_rfl)).trans rfl
      exact does_move rfl e0 ⟨Same.refl _, rfl⟩
    refine allp_mild 0 rfl rfl rfl (fun a x W hout hin hP => ?_) ?_
    · have e3 := hin.is 0 3 (by kernel_rfl) (by decide) (by kernel_rfl) (by kernel_rfl) _ rfl
      clear hin hout
      intro K Q hK
      go_simp
      exact hK _ _ ⟨Same.refl _, rfl⟩
    refine allp_mild 0 rfl rfl rfl (fun a x W hout hin hP => ?_) ?_
    · have e4 := hin.is 1 4 (by kernel_rfl) (by decide) (by kernel_rfl) (by kernel_rfl) _ rfl
      have hc : W.cell? ⟨g, o, none⟩ = some (.int .u8 (bd (q.getD 0 0#8))) := hP.2.get 0 H0.out
      clear hP
      clear hin hout
      intro K Q hK
      go_simp
      exact hK _ _ ⟨Same.refl _, rfl⟩
    refine allp_mild 0 rfl rfl rfl (fun a x W hout hin hP => ?_) ?_
    · have e5 := hin.is 2 5 (by kernel_rfl) (by decide) (by kernel_rfl) (by kernel_rfl) _ rfl
      clear hin hout
      intro K Q hK
      go_simp
      exact hK _ _ ⟨Same.refl _, rfl⟩
    refine allp_mild 0 rfl rfl rfl (fun a x W hout hin hP => ?_) ?_
    · have e0 : a.tmps[0]? = some (.slice (some ⟨g, o, none⟩) len c) := (hout 0 (by kernel_rfl)).trans rfl
      exact does_move rfl e0 ⟨Same.refl _, rfl⟩
    refine allp_mild 0 rfl rfl rfl (fun a x W hout hin hP => ?_) ?_
    · have e7 := hin.is 4 7 (by kernel_rfl) (by decide) (by kernel_rfl) (by kernel_rfl) _ rfl
      clear hin hout
      intro K Q hK
      go_simp
      exact hK _ _ ⟨Same.refl _, rfl⟩
    refine allp_mild 0 rfl rfl rfl (fun a x W hout hin hP => ?_) ?_
    · have e8 := hin.is 5 8 (by kernel_rfl) (by decide) (by kernel_rfl) (by kernel_rfl) _ rfl
      have hc : W.cell? ⟨g, o + 1, none⟩ = some (.int .u8 (bd (q.getD 1 0#8))) := hP.2.get 1 H1.out
      clear hP
      clear hin hout
      intro K Q hK
      go_simp
      exact hK _ _ ⟨Same.refl _, rfl⟩
    refine allp_mild 0 rfl rfl rfl (fun a x W hout hin hP => ?_) ?_
    · have e9 := hin.is 6 9 (by kernel_rfl) (by decide) (by kernel_rfl) (by kernel_rfl) _ rfl
      clear hin hout
      intro K Q hK
      go_simp
      exact hK _ _ ⟨Same.refl _, rfl⟩
    refine allp_mild 0 rfl rfl rfl (fun a x W hout hin hP => ?_) ?_
    · have e10 := hin.is 7 10 (by kernel_rfl) (by decide) (by kernel_rfl) (by kernel_rfl) _ rfl
      clear hin hout
      intro K Q hK
      go_simp
      exact hK _ _ ⟨Same.refl _, rfl⟩
    refine allp_mild 0 rfl rfl rfl (fun a x W hout hin hP => ?_) ?_
    · have e6 := hin.is 3 6 (by kernel_rfl) (by decide) (by kernel_rfl) (by kernel_rfl) _ rfl
      have e11 := hin.is 8 11 (by kernel_rfl) (by decide) (by kernel_rfl) (by kernel_rfl) _ rfl
      clear hin hout
      intro K Q hK
      go_simp
      exact hK _ _ ⟨Same.refl _, rfl⟩
    refine allp_mild 0 rfl rfl rfl (fun a x W hout hin hP => ?_) ?_
    · have e12 := hin.is 9 12 (by kernel_rfl) (by decide) (by kernel_rfl) (by kernel_rfl) _ rfl
      exact does_assign rfl e12 ⟨Same.refl _, rfl⟩
    exact all_end (by decide)
  · intro x W hP hV
    have hb := hP.1
    have h10 : x 10 = .int .u16 (hd (sv 0 q)) := hV 10 (by decide) (.inl (by kernel_rfl))
    clear hP hV
    simp only [putL, Act.put, List.setIfInBounds_toArray, List.set_cons_succ, List.set_cons_zero, h10]
    refine wpAnyH_done (by kernel_rfl) ?_ _
    clear h10
    go_wp2_with fail
    go_ret
    exact ⟨rfl, hb⟩
theorem sv_drop (q : List (BitVec 8)) : sv 0 (q.drop 2) = sv (0 + 2) q := by
  unfold sv
  simp [List.getD_eq_getElem?_getD, List.getElem?_drop]
set_option maxHeartbeats 800000 in
theorem long_at (g o len c : Nat) (q : List (BitVec 8)) (w : World) (hR : BAt w g o q) (ha : 4 ≤ q.length) (hl : 4 ≤ len) (hc : len ≤ c) :
    Calls Tryd.prog 41 #[.slice (some ⟨g, o, none⟩) len c] w fun e w' => e = .returned (.int .u32 (wd (lv 0 q))) ∧ Below w.heap.size w w' := by
  have hl2 : (2 : Int) ≤ (len : Int) := by omega
  have hc2 : (len : Int) ≤ (c : Int) := by omega
  have hcc : (2 : Int) ≤ (c : Int) := by omega
  have hne : ¬ c = 2 := by omega
  have hn2 : 2 ≤ len := by omega
  have hn3 : 2 ≤ c := by omega
  have HSV := Lib.hid (sv_drop q)
  have H0 : Hid (2 ≤ q.length ∧ 2 ≤ len) := Lib.hid ⟨by omega, by omega⟩
  have H2 : Hid (2 ≤ (q.drop 2).length ∧ 2 ≤ len - 2) := Lib.hid ⟨by rw [List.length_drop]; omega, by omega⟩
  clear ha hl hc
  have hF0 : Wl [fun W => Below w.heap.size w W ∧ BAt W g o q] 0 w.drew := ⟨(Below.refl _ _).drew, hR.call (Below.refl _ _).drew⟩
  clear hR
  go_enter Tryd.func41, Tryd.ntmps41
  go_upto_region 1 with fail
  refine wp_region_phs [is (.slice (some ⟨g, o, none⟩) len c), is (.int .u16 (hd (sv 0 q))), is (.int .u32 (wd ((sv 0 q).setWidth 32))), is (.slice (some ⟨g, o, none⟩) len c), is (.slice (some ⟨g, o + 2, none⟩) (len - 2) (c - 2)), is (.int .u16 (hd (sv (0 + 2) q))), is (.int .u32 (wd ((sv (0 + 2) q).setWidth 32))), is (.int .u32 (wd (((sv (0 + 2) q).setWidth 32) <<< 16))), is (.int .u32 (wd (lv 0 q))), is (.int .u32 (wd (lv 0 q)))] [true, true, true, true, true, true, true, true, true, true] [(fun W => Below w.heap.size w W ∧ BAt W g o q)] [false, false, false, false, false, false, false, false, false, false] [some 0, some 0, some 0, some 0, some 0, some 0, some 0, some 0, some 0, some 0] [some 3, some 4, some 5, some 6, some 7, some 8, some 9, some 10, some 11, some 2] 10 0 (fun _ => true) rfl rfl (by kernel_rfl) (by kernel_rfl) (by kernel_rfl) (by kernel_rfl) ?_ ?_ ?_ ?_ ?_ ?_
  · repeat first | exact wok_nil | refine wok_cons (by first | exact fun _ _ h k => ⟨h.1.trans (k.mono h.1.size), h.2.call k⟩) ?_
  · repeat first | exact vok_nil | refine vok_rig (by first | exact fun _ _ _ h => h) ?_ | refine vok_soft (by first | exact fun _ _ _ h _ => h) ?_
  · exact hF0
  · repeat first | exact all_end (by decide) | refine all_cons (by first | exact rfl | exact ⟨rfl, fun _ _ h => Or.inl h⟩ | exact ⟨rfl, fun _ _ h => Or.inr ⟨h, rfl⟩⟩) ?_
  · refine allp_mild 0 rfl rfl rfl (fun a x W hout hin hP => ?_) ?_
    · have e0 : a.tmps[0]? = some (.slice (some ⟨g, o, none⟩) len c) := (hout 0 (by kernel_rfl)).trans rfl
      exact does_move rfl e0 ⟨Same.refl _, rfl⟩
    refine allp_mild 0 rfl rfl rfl (fun a x W hout hin hP => ?_) ?_
    · have e3 := hin.is 0 3 (by kernel_rfl) (by decide) (by kernel_rfl) (by kernel_rfl) _ rfl
      have C := short_at g o len c q W hP.2 H0.out.1 H0.out.2
      clear hP
      clear hin hout
      intro K Q hK
      go_simp
      refine C.mono ?_
      rintro e W' ⟨rfl, hb⟩
      exact hK _ _ ⟨hb, rfl⟩
    refine allp_mild 0 rfl rfl rfl (fun a x W hout hin hP => ?_) ?_
    · have e4 := hin.is 1 4 (by kernel_rfl) (by decide) (by kernel_rfl) (by kernel_rfl) _ rfl
      clear hin hout
      intro K Q hK
      go_simp
      exact hK _ _ ⟨Same.refl _, rfl⟩
    refine allp_mild 0 rfl rfl rfl (fun a x W hout hin hP => ?_) ?_
    · have e0 : a.tmps[0]? = some (.slice (some ⟨g, o, none⟩) len c) := (hout 0 (by kernel_rfl)).trans rfl
      exact does_move rfl e0 ⟨Same.refl _, rfl⟩
    refine allp_mild 0 rfl rfl rfl (fun a x W hout hin hP => ?_) ?_
    · have e6 := hin.is 3 6 (by kernel_rfl) (by decide) (by kernel_rfl) (by kernel_rfl) _ rfl
      clear hin hout
      intro K Q hK
      go_simp
      exact hK _ _ ⟨Same.refl _, rfl⟩
    refine allp_mild 0 rfl rfl rfl (fun a x W hout hin hP => ?_) ?_
    · have e7 := hin.is 4 7 (by kernel_rfl) (by decide) (by kernel_rfl) (by kernel_rfl) _ rfl
      have C := short_at g (o + 2) (len - 2) (c - 2) (q.drop 2) W (hP.2.drop 2) H2.out.1 H2.out.2
      rw [HSV.out] at C
      clear hP
      clear hin hout
      intro K Q hK
      go_simp
      refine C.mono ?_
      rintro e W' ⟨rfl, hb⟩
      exact hK _ _ ⟨hb, rfl⟩
    refine allp_mild 0 rfl rfl rfl (fun a x W hout hin hP => ?_) ?_
    · have e8 := hin.is 5 8 (by kernel_rfl) (by decide) (by kernel_rfl) (by kernel_rfl) _ rfl
      clear hin hout
      intro K Q hK
      go_simp
      exact hK _ _ ⟨Same.refl _, rfl⟩
    refine allp_mild 0 rfl rfl rfl (fun a x W hout hin hP => ?_) ?_
    · have e9 := hin.is 6 9 (by kernel_rfl) (by decide) (by kernel_rfl) (by kernel_rfl) _ rfl
      clear hin hout
      intro K Q hK
      go_simp
      exact hK _ _ ⟨Same.refl _, rfl⟩
    refine allp_mild 0 rfl rfl rfl (fun a x W hout hin hP => ?_) ?_
    · have e5 := hin.is 2 5 (by kernel_rfl) (by decide) (by kernel_rfl) (by kernel_rfl) _ rfl
      have e10 := hin.is 7 10 (by kernel_rfl) (by decide) (by kernel_rfl) (by kernel_rfl) _ rfl
      clear hin hout
      intro K Q hK
      go_simp
      exact hK _ _ ⟨Same.refl _, rfl⟩
    refine allp_mild 0 rfl rfl rfl (fun a x W hout hin hP => ?_) ?_
    · have e11 := hin.is 8 11 (by kernel_rfl) (by decide) (by kernel_rfl) (by kernel_rfl) _ rfl
      exact does_assign rfl e11 ⟨Same.refl _, rfl⟩
    exact all_end (by decide)
  · intro x W hP hV
    have hb := hP.1
    have h10 : x 9 = .int .u32 (wd (lv 0 q)) := hV 9 (by decide) (.inl (by kernel_rfl))
    clear hP hV
    simp only [putL, Act.put, List.setIfInBounds_toArray, List.set_cons_succ, List.set_cons_zero, h10]
    refine wpAnyH_done (by kernel_rfl) ?_ _
    clear h10
    go_wp2_with fail
    go_ret
    exact ⟨rfl, hb⟩
end Go.Proofs.YtobklbfcnbmnmaaDoor

/- The program's token of bytes, or that there is none. -/
set_option maxRecDepth 4000
namespace Go.Proofs.YtobklbfcnbmnmaaDoor
open Go Go.RowKit
theorem size_tok : (Tryd.prog.info? 28).map (·.size) = some 37 := by kernel_rfl
theorem size_dig : (Tryd.prog.info? 26).map (·.size) = some 32 := by kernel_rfl
theorem places_clm : placesOf Tryd.prog 24 = some (5, [(0, 1), (1, 1), (2, 1), (3, 1), (4, 1)]) := by kernel_rfl
theorem places_tok : placesOf Tryd.prog 28 = some (37, [(0, 5), (5, 32)]) := by kernel_rfl
def tok0V : Value := .agg (#[.int .i64 0, .string ⟨#[]⟩, .int .i64 0, .int .u32 0, .int .u32 0] ++ bs (zer 32))
theorem tok0_eq : tok0V = .agg (tokCells clm0 (zer 32)) := by unfold tok0V tokCells clmCells clm0; rw [str_lit0]; rfl
theorem zero_tok : (Tryd.prog.info? 28).bind (·.zero) = some (.agg (tokCells clm0 (zer 32))) := by rw [← tok0_eq]; kernel_rfl
theorem zeros_tok : (#[.int .i64 0, .string ⟨#[]⟩, .int .i64 0, .int .u32 0, .int .u32 0, .int .u8 0, .int .u8 0, .int .u8 0, .int .u8 0, .int .u8 0, .int .u8 0, .int .u8 0, .int .u8 0, .int .u8 0, .int .u8 0, .int .u8 0, .int .u8 0, .int .u8 0, .int .u8 0, .int .u8 0, .int .u8 0, .int .u8 0, .int .u8 0, .int .u8 0, .int .u8 0, .int .u8 0, .int .u8 0, .int .u8 0, .int .u8 0, .int .u8 0, .int .u8 0, .int .u8 0, .int .u8 0, .int .u8 0, .int .u8 0, .int .u8 0, .int .u8 0] : Array Value) = tokCells clm0 (zer 32) := by
  have h := tok0_eq
  unfold tok0V at h
  injection h
theorem tok_size (c : Clm) (t : List (BitVec 8)) (h : t.length = 32) : (tokCells c t).size = 37 := by unfold tokCells; rw [Array.size_append, size_bs, h]; rfl
theorem one_tok (c : Clm) (t : List (BitVec 8)) : (tokCells c t).all (·.oneCell') = true := by
  unfold tokCells
  rw [Array.all_append, one_bs, Bool.and_true]
  unfold clmCells; simp [Value.oneCell']
theorem zeros_one : (Value.agg #[.int .i64 0, .string ⟨#[]⟩, .int .i64 0, .int .u32 0, .int .u32 0, .int .u8 0, .int .u8 0, .int .u8 0, .int .u8 0, .int .u8 0, .int .u8 0, .int .u8 0, .int .u8 0, .int .u8 0, .int .u8 0, .int .u8 0, .int .u8 0, .int .u8 0, .int .u8 0, .int .u8 0, .int .u8 0, .int .u8 0, .int .u8 0, .int .u8 0, .int .u8 0, .int .u8 0, .int .u8 0, .int .u8 0, .int .u8 0, .int .u8 0, .int .u8 0, .int .u8 0, .int .u8 0, .int .u8 0, .int .u8 0, .int .u8 0, .int .u8 0]).cells.all (·.oneCell') = true := by rw [zeros_tok]; exact one_tok clm0 (zer 32)
theorem flat_tok (c : Clm) (t : List (BitVec 8)) : (([.agg (clmCells c), .agg (bs t)] : List Value).flatMap fun v => v.cells.toList).toArray = tokCells c t := by
  unfold tokCells; simp [Value.cells]
/- what 46 bytes tell -/
def clmQ (q : List (BitVec 8)) : Clm := ⟨bd (q.getD 0 0#8), (cutN ((q.drop 1).take 4)).1, bd (q.getD 5 0#8), lv 0 (q.drop 6), lv 0 (q.drop 10)⟩
def tokOk (q : List (BitVec 8)) : Bool := decide (q.length = 46) && (cutN ((q.drop 1).take 4)).2 && mayC (clmQ q)
set_option maxHeartbeats 800000 in
theorem tokdec_len (A : Option Addr) (n cc : Nat) (w : World) (hn : ¬ n = 46) :
    Calls Tryd.prog 32 #[.slice A n cc] w fun e w' => e = .returned (.tuple #[.agg (tokCells clm0 (zer 32)), .int .i64 11]) ∧ Below w.heap.size w w' := by
  have hne : ((n : Int) == 46) = false := beq_eq_false_iff_ne.2 (by omega)
  have HS := St.nil w noF
  go_enter Tryd.func32, Tryd.ntmps32
  go_upto_region 1 with (first | ((with_reducible refine wpList_plain ?_ ?_); exact rfl; intro KK hKK; refine wp_st_alloc HS 28 (tokCells clm0 (zer 32)) rfl (.agg (tokCells clm0 (zer 32))) (by exact zero_tok) (rfl) (fun g2 W1 HSx => hKK _ _ ?_); clear hKK KK HS; have HS : St w noF [⟨g2, 28, tokCells clm0 (zer 32)⟩] W1 := HSx; clear HSx))
  have HS := HS
  go_wp2_with (first | ((with_reducible refine wpList_plain ?_ ?_); exact rfl; intro KK hKK; refine wp_st_store HS 0 0 28 (.tmp 2) (.tmp 10) rfl rfl rfl (.agg #[.int .i64 0, .string ⟨#[]⟩, .int .i64 0, .int .u32 0, .int .u32 0, .int .u8 0, .int .u8 0, .int .u8 0, .int .u8 0, .int .u8 0, .int .u8 0, .int .u8 0, .int .u8 0, .int .u8 0, .int .u8 0, .int .u8 0, .int .u8 0, .int .u8 0, .int .u8 0, .int .u8 0, .int .u8 0, .int .u8 0, .int .u8 0, .int .u8 0, .int .u8 0, .int .u8 0, .int .u8 0, .int .u8 0, .int .u8 0, .int .u8 0, .int .u8 0, .int .u8 0, .int .u8 0, .int .u8 0, .int .u8 0, .int .u8 0, .int .u8 0]) rfl (by exact size_tok) (by rw [tok_size _ _ (length_zer 32)]; exact Nat.le_refl 37) (by exact zeros_one) (tokCells clm0 (zer 32)) (spl_agg _ _ _ zeros_tok (by rw [tok_size _ _ (length_zer 32)]; rfl)) (fun W31 HSx => hKK _ _ ?_); clear hKK KK HS; have HS : St w noF [⟨g2, 28, tokCells clm0 (zer 32)⟩] W31 := HSx; clear HSx))
  exact bodyPost_ret (v := .tuple #[.agg (tokCells clm0 (zer 32)), .int .i64 11]) (results_cell_tmp Tryd.results32 _ _ g2 28 (tokCells clm0 (zer 32)) (0, 0) _ rfl (HS.row 0 rfl) Tryd.underlying28 rfl (by first | exact size_tok | exact HTZ.out)) rfl ⟨rfl, HS.below⟩
set_option maxRecDepth 20000 in
set_option maxHeartbeats 1600000 in
theorem tokdec_no (g o cc : Nat) (q : List (BitVec 8)) (w : World) (hB : BAt w g o q) (hl : q.length = 46) (hc : 46 ≤ cc) (hok : (cutN ((q.drop 1).take 4)).2 = false) :
    Calls Tryd.prog 32 #[.slice (some ⟨g, o, none⟩) 46 cc] w fun e w' => e = .returned (.tuple #[.agg (tokCells clm0 (zer 32)), .int .i64 11]) ∧ Below w.heap.size w w' := by
  have HBA := Lib.hid hB
  have HQL := Lib.hid hl
  have HCC := Lib.hid hc
  have k1 : ¬ cc = 1 := by omega
  have k6 : ¬ cc = 6 := by omega
  have k10 : ¬ cc = 10 := by omega
  have k14 : ¬ cc = 14 := by omega
  have l1 : 1 ≤ cc := by omega
  have l6 : 6 ≤ cc := by omega
  have l10 : 10 ≤ cc := by omega
  have l14 : 14 ≤ cc := by omega
  have l46 : 46 ≤ cc := by omega
  have i1 : (1 : Int) ≤ (cc : Int) := by omega
  have hat : ∀ w, (Instr.arrayAt 50 (.slice (some ⟨g, o + 1, none⟩) 45 (cc - 1))).run Tryd.prog w = .ok (.pointer (some ⟨g, o + 1, none⟩)) w := fun w => run_arrayAt w 50 _ 4 _ 45 (cc - 1) Tryd.underlying50 (by decide)
  have i46 : (46 : Int) ≤ (cc : Int) := by omega
  obtain ⟨b4, hb4⟩ : ∃ b4, (q.drop 1).take 4 = b4 := ⟨_, rfl⟩
  have HB4 : Hid (b4.length = 4) := Lib.hid (by rw [← hb4, List.length_take, List.length_drop, hl]; rfl)
  have HB4Q := Lib.hid hb4
  obtain ⟨tg, htg⟩ : ∃ tg, (q.drop 14).take 32 = tg := ⟨_, rfl⟩
  have HTL : Hid (tg.length = 32) := Lib.hid (by rw [← htg, List.length_take, List.length_drop, hl]; rfl)
  have HTG := Lib.hid htg
  have HTE : Hid (q.drop 14 = tg) := Lib.hid (by rw [← htg, List.take_of_length_le (by rw [List.length_drop, hl]; decide)])
  obtain ⟨x0, hx0⟩ : ∃ x, q.getD 0 0#8 = x := ⟨_, rfl⟩
  obtain ⟨x5, hx5⟩ : ∃ x, q.getD 5 0#8 = x := ⟨_, rfl⟩
  obtain ⟨u, hu⟩ : ∃ u, lv 0 (q.drop 6) = u := ⟨_, rfl⟩
  obtain ⟨v, hv⟩ : ∃ v, lv 0 (q.drop 10) = v := ⟨_, rfl⟩
  have HX0 := Lib.hid hx0
  have HX5 := Lib.hid hx5
  have HU := Lib.hid hu
  have HV := Lib.hid hv
  obtain ⟨nm, hnm⟩ : ∃ nm, (cutN b4).1 = nm := ⟨_, rfl⟩
  obtain ⟨c, hcq⟩ : ∃ c, clmQ q = c := ⟨_, rfl⟩
  have HCQ : Hid (c = ⟨bd x0, nm, bd x5, u, v⟩) := Lib.hid (by rw [← hcq, ← hx0, ← hx5, ← hu, ← hv, ← hnm, ← hb4]; rfl)
  have HTS := Lib.hid (tok_size c tg HTL.out)
  have HTZ : Hid ((Tryd.prog.info? 28).map (·.size) = some (tokCells c tg).size) := Lib.hid (by rw [HTS.out]; exact size_tok)
  have HCUT := Lib.hid (fun W => cut_any b4 W HB4.out)
  rw [hb4] at hok
  rw [show cutN b4 = (nm, false) from Prod.ext hnm hok] at HCUT
  clear hB hl hc hb4 htg hx0 hx5 hu hv hnm hcq hok
  have HS := St.nil w noF
  go_enter Tryd.func32, Tryd.ntmps32
  go_upto_region 1 with (first | ((with_reducible refine wpList_plain ?_ ?_); exact rfl; intro KK hKK; refine wp_st_alloc HS 28 (tokCells clm0 (zer 32)) rfl (.agg (tokCells clm0 (zer 32))) (by exact zero_tok) (rfl) (fun g2 W1 HSx => hKK _ _ ?_); clear hKK KK HS; have HS : St w noF [⟨g2, 28, tokCells clm0 (zer 32)⟩] W1 := HSx; clear HSx))
  have HS := HS
  obtain ⟨B0, hB0⟩ : ∃ B0, W1.heap.size = B0 := ⟨_, rfl⟩
  have HBA1 : BAt W1 g o q := HBA.out.call HS.below
  have HRB : Hid (W1.rangeAt g (o + 1) (bytesV b4)) := Lib.hid (HB4Q.out ▸ HBA1.range 1 4 (by rw [HQL.out]; decide))
  have HB0 : Hid (w.heap.size ≤ B0) := Lib.hid (by rw [← hB0]; exact HS.below.size)
  have HLT : Hid (∀ b ∈ ([⟨g2, 28, tokCells clm0 (zer 32)⟩] : List Blk), b.g < B0) := Lib.hid (by rw [← hB0]; exact fun b hb => HS.lt hb)
  have HGB : Hid (g < B0) := Lib.hid (by rw [← hB0]; exact HBA1.lt)
  have HBB : Hid (B0 ≤ W1.heap.size) := Lib.hid (Nat.le_of_eq hB0.symm)
  clear hB0
  go_wp2_with (first | ((with_reducible refine wpList_plain ?_ ?_); exact rfl; intro KK hKK; refine wp_load_mid 50 (.tmp 14) rfl g (o + 1) rfl (bytesV b4) _ HRB.out Tryd.underlying50 rfl (by rw [len_bytesV, HB4.out]; exact size_b4) (hKK _ _ ?_); clear hKK KK))
  refine (HCUT.out _).mono ?_
  rintro e w3 ⟨rfl, hb3⟩
  have HSx := HS.same hb3
  have HBAx := HBA1.call hb3
  have HBBx : B0 ≤ w3.heap.size := Nat.le_trans HBB.out hb3.size
  clear HS hb3 HBA1 HBB HRB
  have HS := HSx
  clear HSx
  go_upto_region 4 with fail
  have hF0 : Wl [fun W => St w noF [⟨g2, 28, tokCells clm0 (zer 32)⟩] W ∧ BAt W g o q ∧ B0 ≤ W.heap.size, fun W => St w noF [⟨g2, 28, tokCells clm0 (zer 32)⟩] W ∧ BAt W g o q ∧ B0 ≤ W.heap.size] 0 w3.drew := ⟨HS.drew, HBAx.call (Below.refl _ _).drew, HBBx⟩
  clear HS HBAx HBBx
  refine wp_region_phas [is (.slice (some ⟨g, o, none⟩) 46 cc), is (.pointer (some ⟨g, o, none⟩)), is (.int .u8 (bd x0)), is (.int .i64 (bd x0)), is (.string (strB nm)), is (.slice (some ⟨g, o, none⟩) 46 cc), is (.pointer (some ⟨g, o + 5, none⟩)), is (.int .u8 (bd x5)), is (.int .i64 (bd x5)), is (.slice (some ⟨g, o, none⟩) 46 cc), is (.slice (some ⟨g, o + 6, none⟩) 40 (cc - 6)), is (.int .u32 (wd u)), is (.slice (some ⟨g, o, none⟩) 46 cc), is (.slice (some ⟨g, o + 10, none⟩) 36 (cc - 10)), is (.int .u32 (wd v)), is (.agg (clmCells c)), is (.slice (some ⟨g, o, none⟩) 46 cc), is (.slice (some ⟨g, o + 14, none⟩) 32 (cc - 14)), is (.pointer (some ⟨g, o + 14, none⟩)), is (.agg (bs tg)), is (.agg (tokCells c tg)), (fun v W => ∃ k, v = Value.pointer (some ⟨k, 0, none⟩) ∧ Row W k 28 (tokCells clm0 (zer 32)) ∧ B0 ≤ k), (fun v W => ∃ k, v = Value.pointer (some ⟨k, 0, none⟩) ∧ Row W k 28 (tokCells c tg) ∧ B0 ≤ k)] [true, true, true, true, true, true, true, true, true, true, true, true, true, true, true, true, true, true, true, true, true, false, false] [(fun W => St w noF [⟨g2, 28, tokCells clm0 (zer 32)⟩] W ∧ BAt W g o q ∧ B0 ≤ W.heap.size), (fun W => St w noF [⟨g2, 28, tokCells clm0 (zer 32)⟩] W ∧ BAt W g o q ∧ B0 ≤ W.heap.size)] [false, false, false, false, false, false, false, false, false, false, false, false, false, false, false, false, false, false, false, false, false, false, true] [some 0, some 0, some 0, some 0, some 0, some 0, some 0, some 0, some 0, some 0, some 0, some 0, some 0, some 0, some 0, some 0, some 0, some 0, some 0, some 0, some 0, some 0, some 0] [none, none, none, none, none, none, none, none, none, none, none, none, none, none, none, none, none, none, none, none, none, none, some 21] [some 19, some 20, some 21, some 22, some 23, some 24, some 25, some 26, some 27, some 28, some 29, some 30, some 31, some 32, some 33, some 34, some 35, some 36, some 37, some 38, some 39, some 6, none] 23 1 (fun _ => true) rfl rfl (by kernel_rfl) (by kernel_rfl) (by kernel_rfl) (by kernel_rfl) (by kernel_rfl) ?_ ?_ ?_ ?_ ?_ ?_
  · repeat first | exact wok_nil | refine wok_cons (by first | exact fun _ _ h k => ⟨h.1.same k, h.2.1.call k, Nat.le_trans h.2.2 k.size⟩) ?_
  · repeat first | exact vok_nil | refine vok_rig (by first | exact fun _ _ _ h => h) ?_ | refine vok_soft (by first | exact fun _ _ _ h _ => h | exact fun _ _ _ h k => ⟨h.choose, h.choose_spec.1, h.choose_spec.2.1.call k, h.choose_spec.2.2⟩) ?_
  · exact hF0
  · repeat first | exact all_end (by decide) | refine all_cons (by first | exact rfl | exact ⟨rfl, fun _ _ h => Or.inl h⟩ | exact ⟨rfl, fun _ _ h => Or.inr ⟨h, rfl⟩⟩) ?_
  · refine alla_old rfl (step_mild 0 rfl rfl rfl (fun a x W hout hin hP => ?_)) ?_
    · have e0 : a.tmps[0]? = some (.slice (some ⟨g, o, none⟩) 46 cc) := (hout 0 (by kernel_rfl)).trans rfl
      exact does_move rfl e0 ⟨Same.refl _, rfl⟩
    refine alla_old rfl (step_mild 0 rfl rfl rfl (fun a x W hout hin hP => ?_)) ?_
    · have e19 := hin.is 0 19 (by kernel_rfl) (by decide) (by kernel_rfl) (by kernel_rfl) _ rfl
      clear hin hout
      intro K Q hK
      go_simp
      exact hK _ _ ⟨Same.refl _, rfl⟩
    refine alla_old rfl (step_mild 0 rfl rfl rfl (fun a x W hout hin hP => ?_)) ?_
    · have e20 := hin.is 1 20 (by kernel_rfl) (by decide) (by kernel_rfl) (by kernel_rfl) _ rfl
      have hc : W.cell? ⟨g, o, none⟩ = some (.int .u8 (bd x0)) := HX0.out ▸ hP.2.1.get 0 (by rw [HQL.out]; decide)
      clear hP
      clear hin hout
      intro K Q hK
      go_simp
      exact hK _ _ ⟨Same.refl _, rfl⟩
    refine alla_old rfl (step_mild 0 rfl rfl rfl (fun a x W hout hin hP => ?_)) ?_
    · have e21 := hin.is 2 21 (by kernel_rfl) (by decide) (by kernel_rfl) (by kernel_rfl) _ rfl
      have hw := i64_bd x0
      clear hin hout
      intro K Q hK
      go_simp
      exact hK _ _ ⟨Same.refl _, rfl⟩
    refine alla_old rfl (step_mild 0 rfl rfl rfl (fun a x W hout hin hP => ?_)) ?_
    · have e4 : a.tmps[4]? = some (.string (strB nm)) := (hout 4 (by kernel_rfl)).trans rfl
      exact does_move rfl e4 ⟨Same.refl _, rfl⟩
    refine alla_old rfl (step_mild 0 rfl rfl rfl (fun a x W hout hin hP => ?_)) ?_
    · have e0 : a.tmps[0]? = some (.slice (some ⟨g, o, none⟩) 46 cc) := (hout 0 (by kernel_rfl)).trans rfl
      exact does_move rfl e0 ⟨Same.refl _, rfl⟩
    refine alla_old rfl (step_mild 0 rfl rfl rfl (fun a x W hout hin hP => ?_)) ?_
    · have e24 := hin.is 5 24 (by kernel_rfl) (by decide) (by kernel_rfl) (by kernel_rfl) _ rfl
      clear hin hout
      intro K Q hK
      go_simp
      exact hK _ _ ⟨Same.refl _, rfl⟩
    refine alla_old rfl (step_mild 0 rfl rfl rfl (fun a x W hout hin hP => ?_)) ?_
    · have e25 := hin.is 6 25 (by kernel_rfl) (by decide) (by kernel_rfl) (by kernel_rfl) _ rfl
      have hc : W.cell? ⟨g, o + 5, none⟩ = some (.int .u8 (bd x5)) := HX5.out ▸ hP.2.1.get 5 (by rw [HQL.out]; decide)
      clear hP
      clear hin hout
      intro K Q hK
      go_simp
      exact hK _ _ ⟨Same.refl _, rfl⟩
    refine alla_old rfl (step_mild 0 rfl rfl rfl (fun a x W hout hin hP => ?_)) ?_
    · have e26 := hin.is 7 26 (by kernel_rfl) (by decide) (by kernel_rfl) (by kernel_rfl) _ rfl
      have hw := i64_bd x5
      clear hin hout
      intro K Q hK
      go_simp
      exact hK _ _ ⟨Same.refl _, rfl⟩
    refine alla_old rfl (step_mild 0 rfl rfl rfl (fun a x W hout hin hP => ?_)) ?_
    · have e0 : a.tmps[0]? = some (.slice (some ⟨g, o, none⟩) 46 cc) := (hout 0 (by kernel_rfl)).trans rfl
      exact does_move rfl e0 ⟨Same.refl _, rfl⟩
    refine alla_old rfl (step_mild 0 rfl rfl rfl (fun a x W hout hin hP => ?_)) ?_
    · have e28 := hin.is 9 28 (by kernel_rfl) (by decide) (by kernel_rfl) (by kernel_rfl) _ rfl
      clear hin hout
      intro K Q hK
      go_simp
      exact hK _ _ ⟨Same.refl _, rfl⟩
    refine alla_old rfl (step_mild 0 rfl rfl rfl (fun a x W hout hin hP => ?_)) ?_
    · have e29 := hin.is 10 29 (by kernel_rfl) (by decide) (by kernel_rfl) (by kernel_rfl) _ rfl
      have C := long_at g (o + 6) 40 (cc - 6) (q.drop 6) W (hP.2.1.drop 6) (by rw [List.length_drop, HQL.out]; decide) (by decide) (by have := HCC.out; omega)
      rw [HU.out] at C
      clear hP
      clear hin hout
      intro K Q hK
      go_simp
      refine C.mono ?_
      rintro e W' ⟨rfl, hb⟩
      exact hK _ _ ⟨hb, rfl⟩
    refine alla_old rfl (step_mild 0 rfl rfl rfl (fun a x W hout hin hP => ?_)) ?_
    · have e0 : a.tmps[0]? = some (.slice (some ⟨g, o, none⟩) 46 cc) := (hout 0 (by kernel_rfl)).trans rfl
      exact does_move rfl e0 ⟨Same.refl _, rfl⟩
    refine alla_old rfl (step_mild 0 rfl rfl rfl (fun a x W hout hin hP => ?_)) ?_
    · have e31 := hin.is 12 31 (by kernel_rfl) (by decide) (by kernel_rfl) (by kernel_rfl) _ rfl
      clear hin hout
      intro K Q hK
      go_simp
      exact hK _ _ ⟨Same.refl _, rfl⟩
    refine alla_old rfl (step_mild 0 rfl rfl rfl (fun a x W hout hin hP => ?_)) ?_
    · have e32 := hin.is 13 32 (by kernel_rfl) (by decide) (by kernel_rfl) (by kernel_rfl) _ rfl
      have C := long_at g (o + 10) 36 (cc - 10) (q.drop 10) W (hP.2.1.drop 10) (by rw [List.length_drop, HQL.out]; decide) (by decide) (by have := HCC.out; omega)
      rw [HV.out] at C
      clear hP
      clear hin hout
      intro K Q hK
      go_simp
      refine C.mono ?_
      rintro e W' ⟨rfl, hb⟩
      exact hK _ _ ⟨hb, rfl⟩
    refine alla_old rfl (step_mild 0 rfl rfl rfl (fun a x W hout hin hP => ?_)) ?_
    · have e22 := hin.is 3 22 (by kernel_rfl) (by decide) (by kernel_rfl) (by kernel_rfl) _ rfl
      have e23 := hin.is 4 23 (by kernel_rfl) (by decide) (by kernel_rfl) (by kernel_rfl) _ rfl
      have e27 := hin.is 8 27 (by kernel_rfl) (by decide) (by kernel_rfl) (by kernel_rfl) _ rfl
      have e30 := hin.is 11 30 (by kernel_rfl) (by decide) (by kernel_rfl) (by kernel_rfl) _ rfl
      have e33 := hin.is 14 33 (by kernel_rfl) (by decide) (by kernel_rfl) (by kernel_rfl) _ rfl
      clear hin hout
      intro K Q hK
      refine wp_buildStruct 24 _ rfl places_clm [.int .i64 (bd x0), .string (strB nm), .int .i64 (bd x5), .int .u32 (wd u), .int .u32 (wd v)] ?_ rfl rfl ?_
      · simp only [List.map_toArray, List.map_cons, List.map_nil, eval_of_get e22, eval_of_get e23, eval_of_get e27, eval_of_get e30, eval_of_get e33]; rfl
      · exact hK _ _ ⟨Same.refl _, by rw [HCQ.out]; rfl⟩
    refine alla_old rfl (step_mild 0 rfl rfl rfl (fun a x W hout hin hP => ?_)) ?_
    · have e0 : a.tmps[0]? = some (.slice (some ⟨g, o, none⟩) 46 cc) := (hout 0 (by kernel_rfl)).trans rfl
      exact does_move rfl e0 ⟨Same.refl _, rfl⟩
    refine alla_old rfl (step_mild 0 rfl rfl rfl (fun a x W hout hin hP => ?_)) ?_
    · have e35 := hin.is 16 35 (by kernel_rfl) (by decide) (by kernel_rfl) (by kernel_rfl) _ rfl
      clear hin hout
      intro K Q hK
      go_simp
      exact hK _ _ ⟨Same.refl _, rfl⟩
    refine alla_old rfl (step_mild 0 rfl rfl rfl (fun a x W hout hin hP => ?_)) ?_
    · have e36 := hin.is 17 36 (by kernel_rfl) (by decide) (by kernel_rfl) (by kernel_rfl) _ rfl
      have hat : ∀ w, (Instr.arrayAt 26 (.slice (some ⟨g, o + 14, none⟩) 32 (cc - 14))).run Tryd.prog w = .ok (.pointer (some ⟨g, o + 14, none⟩)) w := fun w => run_arrayAt w 26 _ 32 _ 32 (cc - 14) Tryd.underlying26 (by decide)
      clear hin hout
      intro K Q hK
      go_simp
      exact hK _ _ ⟨Same.refl _, rfl⟩
    refine alla_old rfl (step_mild 0 rfl rfl rfl (fun a x W hout hin hP => ?_)) ?_
    · have e37 := hin.is 18 37 (by kernel_rfl) (by decide) (by kernel_rfl) (by kernel_rfl) _ rfl
      clear hin hout
      intro K Q hK
      refine wp_load_mid 26 (.tmp 37) rfl g (o + 14) (eval_of_get e37) (bytesV tg) _ (HTG.out ▸ hP.2.1.range 14 32 (by rw [HQL.out]; decide)) Tryd.underlying26 rfl (by rw [len_bytesV, HTL.out]; exact size_dig) ?_
      exact hK _ _ ⟨Same.refl _, by rw [show (bytesV tg).toArray = bs tg from rfl]; rfl⟩
    refine alla_old rfl (step_mild 0 rfl rfl rfl (fun a x W hout hin hP => ?_)) ?_
    · have e34 := hin.is 15 34 (by kernel_rfl) (by decide) (by kernel_rfl) (by kernel_rfl) _ rfl
      have e38 := hin.is 19 38 (by kernel_rfl) (by decide) (by kernel_rfl) (by kernel_rfl) _ rfl
      clear hin hout
      intro K Q hK
      refine wp_buildStruct 28 _ rfl places_tok [.agg (clmCells c), .agg (bs tg)] ?_ (by simp [Value.cells, size_bs, HTL.out]; rfl) (by simp [Value.cells, size_bs, HTL.out]; rfl) ?_
      · simp only [List.map_toArray, List.map_cons, List.map_nil, eval_of_get e34, eval_of_get e38]; rfl
      · exact hK _ _ ⟨Same.refl _, by rw [flat_tok]; rfl⟩
    refine alla_old rfl (step_mild 0 rfl rfl rfl (fun a x W hout hin hP => ?_)) ?_
    · have hbse := hP.2.2
      clear hP hin hout
      intro K Q hK
      have hz : (Tryd.prog.info? 28).bind (·.zero) = some (.agg (tokCells clm0 (zer 32))) := zero_tok
      refine wp_new_row 28 (tokCells clm0 (zer 32)) rfl hz ?_
      exact hK _ _ ⟨Same.alloc _ _, _, rfl, Row.fresh _ _ _, hbse⟩
    refine alla_wild 0 rfl rfl rfl (fun a x W hout hin hP => ?_) ?_
    · obtain ⟨hw21, hx21⟩ := hin 21 (by kernel_rfl) (by decide)
      have hw21 := hw21 (.inr ⟨rfl, by kernel_rfl⟩)
      have hx21 := hx21 6 (by kernel_rfl)
      have e39 := hin.is 20 39 (by kernel_rfl) (by decide) (by kernel_rfl) (by kernel_rfl) _ rfl
      obtain ⟨g6, hg6, r6, hb6⟩ := hw21
      rw [hg6] at hx21
      clear hin hout
      intro K Q hK
      refine wp_store_row 28 (.tmp 6) (.tmp 39) rfl g6 (tokCells c tg) (eval_of_get hx21) (eval_of_get e39) 28 (tokCells clm0 (zer 32)) r6 (by exact HTZ.out) (by rw [HTS.out]; rfl) (one_tok _ _) ?_
      have hgr := grown_setRow W g6 (tokCells c tg)
      exact hK (x 21) _ ⟨⟨hP.1.far hgr (Nat.le_trans HB0.out hb6) (fun b hb => by have := HLT.out b hb; omega), hP.2.1.far hgr (by have := HGB.out; omega), Nat.le_trans hP.2.2 hgr.size⟩, ⟨g6, hg6, r6.setRow _, hb6⟩, al_one rfl rfl⟩
    exact all_end (by decide)
  · intro x W hP hV hal
    obtain ⟨g6, h8, r6, hb6⟩ := hV 22 (by decide) (.inr (by kernel_rfl))
    have h7 : x 21 = .pointer (some ⟨g6, 0, none⟩) := (hal 22 (by decide) 21 rfl).symm.trans h8
    have HS := hP.1
    have R6 := Lib.hid r6
    have HNE : Hid (g2 ≠ g6) := Lib.hid (by have := HLT.out ⟨g2, 28, tokCells clm0 (zer 32)⟩ (List.mem_singleton.2 rfl); have h : g2 < B0 := this; omega)
    clear hV hP hal h8 r6 hb6
    simp only [putL, Act.put, List.setIfInBounds_toArray, List.set_cons_succ, List.set_cons_zero, h7]
    simp only [Nat.zero_add, Nat.reduceAdd]
    refine wpAnyH_done (by kernel_rfl) ?_ _
    clear h7
    go_wp2_with (first | ((with_reducible refine wpList_plain ?_ ?_); exact rfl; intro KK hKK; refine wp_st_store HS 0 0 28 (.tmp 2) (.tmp 48) rfl rfl rfl (.agg #[.int .i64 0, .string ⟨#[]⟩, .int .i64 0, .int .u32 0, .int .u32 0, .int .u8 0, .int .u8 0, .int .u8 0, .int .u8 0, .int .u8 0, .int .u8 0, .int .u8 0, .int .u8 0, .int .u8 0, .int .u8 0, .int .u8 0, .int .u8 0, .int .u8 0, .int .u8 0, .int .u8 0, .int .u8 0, .int .u8 0, .int .u8 0, .int .u8 0, .int .u8 0, .int .u8 0, .int .u8 0, .int .u8 0, .int .u8 0, .int .u8 0, .int .u8 0, .int .u8 0, .int .u8 0, .int .u8 0, .int .u8 0, .int .u8 0, .int .u8 0]) rfl (by exact size_tok) (by rw [tok_size _ _ (length_zer 32)]; exact Nat.le_refl 37) (by exact zeros_one) (tokCells clm0 (zer 32)) (spl_agg _ _ _ zeros_tok (by rw [tok_size _ _ (length_zer 32)]; rfl)) (fun W41 HSx => hKK _ _ ?_); clear hKK KK HS; have HS : St w noF [⟨g2, 28, tokCells clm0 (zer 32)⟩] W41 := HSx; clear HSx))
    exact bodyPost_ret (v := .tuple #[.agg (tokCells clm0 (zer 32)), .int .i64 11]) (results_cell_tmp Tryd.results32 _ _ g2 28 (tokCells clm0 (zer 32)) (0, 0) _ rfl (HS.row 0 rfl) Tryd.underlying28 rfl (by first | exact size_tok | exact HTZ.out)) rfl ⟨rfl, HS.below⟩
set_option maxRecDepth 20000 in
set_option maxHeartbeats 1600000 in
theorem tokdec_not (g o cc : Nat) (q : List (BitVec 8)) (w : World) (hB : BAt w g o q) (hl : q.length = 46) (hc : 46 ≤ cc) (hok : (cutN ((q.drop 1).take 4)).2 = true) (hm : mayC (clmQ q) = false) :
    Calls Tryd.prog 32 #[.slice (some ⟨g, o, none⟩) 46 cc] w fun e w' => e = .returned (.tuple #[.agg (tokCells clm0 (zer 32)), .int .i64 11]) ∧ Below w.heap.size w w' := by
  have HBA := Lib.hid hB
  have HQL := Lib.hid hl
  have HCC := Lib.hid hc
  have k1 : ¬ cc = 1 := by omega
  have k6 : ¬ cc = 6 := by omega
  have k10 : ¬ cc = 10 := by omega
  have k14 : ¬ cc = 14 := by omega
  have l1 : 1 ≤ cc := by omega
  have l6 : 6 ≤ cc := by omega
  have l10 : 10 ≤ cc := by omega
  have l14 : 14 ≤ cc := by omega
  have l46 : 46 ≤ cc := by omega
  have i1 : (1 : Int) ≤ (cc : Int) := by omega
  have hat : ∀ w, (Instr.arrayAt 50 (.slice (some ⟨g, o + 1, none⟩) 45 (cc - 1))).run Tryd.prog w = .ok (.pointer (some ⟨g, o + 1, none⟩)) w := fun w => run_arrayAt w 50 _ 4 _ 45 (cc - 1) Tryd.underlying50 (by decide)
  have i46 : (46 : Int) ≤ (cc : Int) := by omega
  obtain ⟨b4, hb4⟩ : ∃ b4, (q.drop 1).take 4 = b4 := ⟨_, rfl⟩
  have HB4 : Hid (b4.length = 4) := Lib.hid (by rw [← hb4, List.length_take, List.length_drop, hl]; rfl)
  have HB4Q := Lib.hid hb4
  obtain ⟨tg, htg⟩ : ∃ tg, (q.drop 14).take 32 = tg := ⟨_, rfl⟩
  have HTL : Hid (tg.length = 32) := Lib.hid (by rw [← htg, List.length_take, List.length_drop, hl]; rfl)
  have HTG := Lib.hid htg
  have HTE : Hid (q.drop 14 = tg) := Lib.hid (by rw [← htg, List.take_of_length_le (by rw [List.length_drop, hl]; decide)])
  obtain ⟨x0, hx0⟩ : ∃ x, q.getD 0 0#8 = x := ⟨_, rfl⟩
  obtain ⟨x5, hx5⟩ : ∃ x, q.getD 5 0#8 = x := ⟨_, rfl⟩
  obtain ⟨u, hu⟩ : ∃ u, lv 0 (q.drop 6) = u := ⟨_, rfl⟩
  obtain ⟨v, hv⟩ : ∃ v, lv 0 (q.drop 10) = v := ⟨_, rfl⟩
  have HX0 := Lib.hid hx0
  have HX5 := Lib.hid hx5
  have HU := Lib.hid hu
  have HV := Lib.hid hv
  obtain ⟨nm, hnm⟩ : ∃ nm, (cutN b4).1 = nm := ⟨_, rfl⟩
  obtain ⟨c, hcq⟩ : ∃ c, clmQ q = c := ⟨_, rfl⟩
  have HCQ : Hid (c = ⟨bd x0, nm, bd x5, u, v⟩) := Lib.hid (by rw [← hcq, ← hx0, ← hx5, ← hu, ← hv, ← hnm, ← hb4]; rfl)
  have HTS := Lib.hid (tok_size c tg HTL.out)
  have HTZ : Hid ((Tryd.prog.info? 28).map (·.size) = some (tokCells c tg).size) := Lib.hid (by rw [HTS.out]; exact size_tok)
  have HCUT := Lib.hid (fun W => cut_any b4 W HB4.out)
  rw [hb4] at hok
  rw [show cutN b4 = (nm, true) from Prod.ext hnm hok] at HCUT
  rw [hcq] at hm
  have hnl : c.n.length ≤ maxLen := by
    rw [HCQ.out]
    show nm.length ≤ maxLen
    rw [← hnm]
    have := cut_len HB4.out
    unfold maxLen; omega
  have HMC := Lib.hid (fun W => maybe_any c W hnl)
  rw [hm] at HMC
  clear hm hnl
  clear hB hl hc hb4 htg hx0 hx5 hu hv hnm hcq hok
  have HS := St.nil w noF
  go_enter Tryd.func32, Tryd.ntmps32
  go_upto_region 1 with (first | ((with_reducible refine wpList_plain ?_ ?_); exact rfl; intro KK hKK; refine wp_st_alloc HS 28 (tokCells clm0 (zer 32)) rfl (.agg (tokCells clm0 (zer 32))) (by exact zero_tok) (rfl) (fun g2 W1 HSx => hKK _ _ ?_); clear hKK KK HS; have HS : St w noF [⟨g2, 28, tokCells clm0 (zer 32)⟩] W1 := HSx; clear HSx))
  have HS := HS
  obtain ⟨B0, hB0⟩ : ∃ B0, W1.heap.size = B0 := ⟨_, rfl⟩
  have HBA1 : BAt W1 g o q := HBA.out.call HS.below
  have HRB : Hid (W1.rangeAt g (o + 1) (bytesV b4)) := Lib.hid (HB4Q.out ▸ HBA1.range 1 4 (by rw [HQL.out]; decide))
  have HB0 : Hid (w.heap.size ≤ B0) := Lib.hid (by rw [← hB0]; exact HS.below.size)
  have HLT : Hid (∀ b ∈ ([⟨g2, 28, tokCells clm0 (zer 32)⟩] : List Blk), b.g < B0) := Lib.hid (by rw [← hB0]; exact fun b hb => HS.lt hb)
  have HGB : Hid (g < B0) := Lib.hid (by rw [← hB0]; exact HBA1.lt)
  have HBB : Hid (B0 ≤ W1.heap.size) := Lib.hid (Nat.le_of_eq hB0.symm)
  clear hB0
  go_wp2_with (first | ((with_reducible refine wpList_plain ?_ ?_); exact rfl; intro KK hKK; refine wp_load_mid 50 (.tmp 14) rfl g (o + 1) rfl (bytesV b4) _ HRB.out Tryd.underlying50 rfl (by rw [len_bytesV, HB4.out]; exact size_b4) (hKK _ _ ?_); clear hKK KK))
  refine (HCUT.out _).mono ?_
  rintro e w3 ⟨rfl, hb3⟩
  have HSx := HS.same hb3
  have HBAx := HBA1.call hb3
  have HBBx : B0 ≤ w3.heap.size := Nat.le_trans HBB.out hb3.size
  clear HS hb3 HBA1 HBB HRB
  have HS := HSx
  clear HSx
  go_upto_region 4 with fail
  have hF0 : Wl [fun W => St w noF [⟨g2, 28, tokCells clm0 (zer 32)⟩] W ∧ BAt W g o q ∧ B0 ≤ W.heap.size, fun W => St w noF [⟨g2, 28, tokCells clm0 (zer 32)⟩] W ∧ BAt W g o q ∧ B0 ≤ W.heap.size] 0 w3.drew := ⟨HS.drew, HBAx.call (Below.refl _ _).drew, HBBx⟩
  clear HS HBAx HBBx
  refine wp_region_phas [is (.slice (some ⟨g, o, none⟩) 46 cc), is (.pointer (some ⟨g, o, none⟩)), is (.int .u8 (bd x0)), is (.int .i64 (bd x0)), is (.string (strB nm)), is (.slice (some ⟨g, o, none⟩) 46 cc), is (.pointer (some ⟨g, o + 5, none⟩)), is (.int .u8 (bd x5)), is (.int .i64 (bd x5)), is (.slice (some ⟨g, o, none⟩) 46 cc), is (.slice (some ⟨g, o + 6, none⟩) 40 (cc - 6)), is (.int .u32 (wd u)), is (.slice (some ⟨g, o, none⟩) 46 cc), is (.slice (some ⟨g, o + 10, none⟩) 36 (cc - 10)), is (.int .u32 (wd v)), is (.agg (clmCells c)), is (.slice (some ⟨g, o, none⟩) 46 cc), is (.slice (some ⟨g, o + 14, none⟩) 32 (cc - 14)), is (.pointer (some ⟨g, o + 14, none⟩)), is (.agg (bs tg)), is (.agg (tokCells c tg)), (fun v W => ∃ k, v = Value.pointer (some ⟨k, 0, none⟩) ∧ Row W k 28 (tokCells clm0 (zer 32)) ∧ B0 ≤ k), (fun v W => ∃ k, v = Value.pointer (some ⟨k, 0, none⟩) ∧ Row W k 28 (tokCells c tg) ∧ B0 ≤ k)] [true, true, true, true, true, true, true, true, true, true, true, true, true, true, true, true, true, true, true, true, true, false, false] [(fun W => St w noF [⟨g2, 28, tokCells clm0 (zer 32)⟩] W ∧ BAt W g o q ∧ B0 ≤ W.heap.size), (fun W => St w noF [⟨g2, 28, tokCells clm0 (zer 32)⟩] W ∧ BAt W g o q ∧ B0 ≤ W.heap.size)] [false, false, false, false, false, false, false, false, false, false, false, false, false, false, false, false, false, false, false, false, false, false, true] [some 0, some 0, some 0, some 0, some 0, some 0, some 0, some 0, some 0, some 0, some 0, some 0, some 0, some 0, some 0, some 0, some 0, some 0, some 0, some 0, some 0, some 0, some 0] [none, none, none, none, none, none, none, none, none, none, none, none, none, none, none, none, none, none, none, none, none, none, some 21] [some 19, some 20, some 21, some 22, some 23, some 24, some 25, some 26, some 27, some 28, some 29, some 30, some 31, some 32, some 33, some 34, some 35, some 36, some 37, some 38, some 39, some 6, none] 23 1 (fun _ => true) rfl rfl (by kernel_rfl) (by kernel_rfl) (by kernel_rfl) (by kernel_rfl) (by kernel_rfl) ?_ ?_ ?_ ?_ ?_ ?_
  · repeat first | exact wok_nil | refine wok_cons (by first | exact fun _ _ h k => ⟨h.1.same k, h.2.1.call k, Nat.le_trans h.2.2 k.size⟩) ?_
  · repeat first | exact vok_nil | refine vok_rig (by first | exact fun _ _ _ h => h) ?_ | refine vok_soft (by first | exact fun _ _ _ h _ => h | exact fun _ _ _ h k => ⟨h.choose, h.choose_spec.1, h.choose_spec.2.1.call k, h.choose_spec.2.2⟩) ?_
  · exact hF0
  · repeat first | exact all_end (by decide) | refine all_cons (by first | exact rfl | exact ⟨rfl, fun _ _ h => Or.inl h⟩ | exact ⟨rfl, fun _ _ h => Or.inr ⟨h, rfl⟩⟩) ?_
  · refine alla_old rfl (step_mild 0 rfl rfl rfl (fun a x W hout hin hP => ?_)) ?_
    · have e0 : a.tmps[0]? = some (.slice (some ⟨g, o, none⟩) 46 cc) := (hout 0 (by kernel_rfl)).trans rfl
      exact does_move rfl e0 ⟨Same.refl _, rfl⟩
    refine alla_old rfl (step_mild 0 rfl rfl rfl (fun a x W hout hin hP => ?_)) ?_
    · have e19 := hin.is 0 19 (by kernel_rfl) (by decide) (by kernel_rfl) (by kernel_rfl) _ rfl
      clear hin hout
      intro K Q hK
      go_simp
      exact hK _ _ ⟨Same.refl _, rfl⟩
    refine alla_old rfl (step_mild 0 rfl rfl rfl (fun a x W hout hin hP => ?_)) ?_
    · have e20 := hin.is 1 20 (by kernel_rfl) (by decide) (by kernel_rfl) (by kernel_rfl) _ rfl
      have hc : W.cell? ⟨g, o, none⟩ = some (.int .u8 (bd x0)) := HX0.out ▸ hP.2.1.get 0 (by rw [HQL.out]; decide)
      clear hP
      clear hin hout
      intro K Q hK
      go_simp
      exact hK _ _ ⟨Same.refl _, rfl⟩
    refine alla_old rfl (step_mild 0 rfl rfl rfl (fun a x W hout hin hP => ?_)) ?_
    · have e21 := hin.is 2 21 (by kernel_rfl) (by decide) (by kernel_rfl) (by kernel_rfl) _ rfl
      have hw := i64_bd x0
      clear hin hout
      intro K Q hK
      go_simp
      exact hK _ _ ⟨Same.refl _, rfl⟩
    refine alla_old rfl (step_mild 0 rfl rfl rfl (fun a x W hout hin hP => ?_)) ?_
    · have e4 : a.tmps[4]? = some (.string (strB nm)) := (hout 4 (by kernel_rfl)).trans rfl
      exact does_move rfl e4 ⟨Same.refl _, rfl⟩
    refine alla_old rfl (step_mild 0 rfl rfl rfl (fun a x W hout hin hP => ?_)) ?_
    · have e0 : a.tmps[0]? = some (.slice (some ⟨g, o, none⟩) 46 cc) := (hout 0 (by kernel_rfl)).trans rfl
      exact does_move rfl e0 ⟨Same.refl _, rfl⟩
    refine alla_old rfl (step_mild 0 rfl rfl rfl (fun a x W hout hin hP => ?_)) ?_
    · have e24 := hin.is 5 24 (by kernel_rfl) (by decide) (by kernel_rfl) (by kernel_rfl) _ rfl
      clear hin hout
      intro K Q hK
      go_simp
      exact hK _ _ ⟨Same.refl _, rfl⟩
    refine alla_old rfl (step_mild 0 rfl rfl rfl (fun a x W hout hin hP => ?_)) ?_
    · have e25 := hin.is 6 25 (by kernel_rfl) (by decide) (by kernel_rfl) (by kernel_rfl) _ rfl
      have hc : W.cell? ⟨g, o + 5, none⟩ = some (.int .u8 (bd x5)) := HX5.out ▸ hP.2.1.get 5 (by rw [HQL.out]; decide)
      clear hP
      clear hin hout
      intro K Q hK
      go_simp
      exact hK _ _ ⟨Same.refl _, rfl⟩
    refine alla_old rfl (step_mild 0 rfl rfl rfl (fun a x W hout hin hP => ?_)) ?_
    · have e26 := hin.is 7 26 (by kernel_rfl) (by decide) (by kernel_rfl) (by kernel_rfl) _ rfl
      have hw := i64_bd x5
      clear hin hout
      intro K Q hK
      go_simp
      exact hK _ _ ⟨Same.refl _, rfl⟩
    refine alla_old rfl (step_mild 0 rfl rfl rfl (fun a x W hout hin hP => ?_)) ?_
    · have e0 : a.tmps[0]? = some (.slice (some ⟨g, o, none⟩) 46 cc) := (hout 0 (by kernel_rfl)).trans rfl
      exact does_move rfl e0 ⟨Same.refl _, rfl⟩
    refine alla_old rfl (step_mild 0 rfl rfl rfl (fun a x W hout hin hP => ?_)) ?_
    · have e28 := hin.is 9 28 (by kernel_rfl) (by decide) (by kernel_rfl) (by kernel_rfl) _ rfl
      clear hin hout
      intro K Q hK
      go_simp
      exact hK _ _ ⟨Same.refl _, rfl⟩
    refine alla_old rfl (step_mild 0 rfl rfl rfl (fun a x W hout hin hP => ?_)) ?_
    · have e29 := hin.is 10 29 (by kernel_rfl) (by decide) (by kernel_rfl) (by kernel_rfl) _ rfl
      have C := long_at g (o + 6) 40 (cc - 6) (q.drop 6) W (hP.2.1.drop 6) (by rw [List.length_drop, HQL.out]; decide) (by decide) (by have := HCC.out; omega)
      rw [HU.out] at C
      clear hP
      clear hin hout
      intro K Q hK
      go_simp
      refine C.mono ?_
      rintro e W' ⟨rfl, hb⟩
      exact hK _ _ ⟨hb, rfl⟩
    refine alla_old rfl (step_mild 0 rfl rfl rfl (fun a x W hout hin hP => ?_)) ?_
    · have e0 : a.tmps[0]? = some (.slice (some ⟨g, o, none⟩) 46 cc) := (hout 0 (by kernel_rfl)).trans rfl
      exact does_move rfl e0 ⟨Same.refl _, rfl⟩
    refine alla_old rfl (step_mild 0 rfl rfl rfl (fun a x W hout hin hP => ?_)) ?_
    · have e31 := hin.is 12 31 (by kernel_rfl) (by decide) (by kernel_rfl) (by kernel_rfl) _ rfl
      clear hin hout
      intro K Q hK
      go_simp
      exact hK _ _ ⟨Same.refl _, rfl⟩
    refine alla_old rfl (step_mild 0 rfl rfl rfl (fun a x W hout hin hP => ?_)) ?_
    · have e32 := hin.is 13 32 (by kernel_rfl) (by decide) (by kernel_rfl) (by kernel_rfl) _ rfl
      have C := long_at g (o + 10) 36 (cc - 10) (q.drop 10) W (hP.2.1.drop 10) (by rw [List.length_drop, HQL.out]; decide) (by decide) (by have := HCC.out; omega)
      rw [HV.out] at C
      clear hP
      clear hin hout
      intro K Q hK
      go_simp
      refine C.mono ?_
      rintro e W' ⟨rfl, hb⟩
      exact hK _ _ ⟨hb, rfl⟩
    refine alla_old rfl (step_mild 0 rfl rfl rfl (fun a x W hout hin hP => ?_)) ?_
    · have e22 := hin.is 3 22 (by kernel_rfl) (by decide) (by kernel_rfl) (by kernel_rfl) _ rfl
      have e23 := hin.is 4 23 (by kernel_rfl) (by decide) (by kernel_rfl) (by kernel_rfl) _ rfl
      have e27 := hin.is 8 27 (by kernel_rfl) (by decide) (by kernel_rfl) (by kernel_rfl) _ rfl
      have e30 := hin.is 11 30 (by kernel_rfl) (by decide) (by kernel_rfl) (by kernel_rfl) _ rfl
      have e33 := hin.is 14 33 (by kernel_rfl) (by decide) (by kernel_rfl) (by kernel_rfl) _ rfl
      clear hin hout
      intro K Q hK
      refine wp_buildStruct 24 _ rfl places_clm [.int .i64 (bd x0), .string (strB nm), .int .i64 (bd x5), .int .u32 (wd u), .int .u32 (wd v)] ?_ rfl rfl ?_
      · simp only [List.map_toArray, List.map_cons, List.map_nil, eval_of_get e22, eval_of_get e23, eval_of_get e27, eval_of_get e30, eval_of_get e33]; rfl
      · exact hK _ _ ⟨Same.refl _, by rw [HCQ.out]; rfl⟩
    refine alla_old rfl (step_mild 0 rfl rfl rfl (fun a x W hout hin hP => ?_)) ?_
    · have e0 : a.tmps[0]? = some (.slice (some ⟨g, o, none⟩) 46 cc) := (hout 0 (by kernel_rfl)).trans rfl
      exact does_move rfl e0 ⟨Same.refl _, rfl⟩
    refine alla_old rfl (step_mild 0 rfl rfl rfl (fun a x W hout hin hP => ?_)) ?_
    · have e35 := hin.is 16 35 (by kernel_rfl) (by decide) (by kernel_rfl) (by kernel_rfl) _ rfl
      clear hin hout
      intro K Q hK
      go_simp
      exact hK _ _ ⟨Same.refl _, rfl⟩
    refine alla_old rfl (step_mild 0 rfl rfl rfl (fun a x W hout hin hP => ?_)) ?_
    · have e36 := hin.is 17 36 (by kernel_rfl) (by decide) (by kernel_rfl) (by kernel_rfl) _ rfl
      have hat : ∀ w, (Instr.arrayAt 26 (.slice (some ⟨g, o + 14, none⟩) 32 (cc - 14))).run Tryd.prog w = .ok (.pointer (some ⟨g, o + 14, none⟩)) w := fun w => run_arrayAt w 26 _ 32 _ 32 (cc - 14) Tryd.underlying26 (by decide)
      clear hin hout
      intro K Q hK
      go_simp
      exact hK _ _ ⟨Same.refl _, rfl⟩
    refine alla_old rfl (step_mild 0 rfl rfl rfl (fun a x W hout hin hP => ?_)) ?_
    · have e37 := hin.is 18 37 (by kernel_rfl) (by decide) (by kernel_rfl) (by kernel_rfl) _ rfl
      clear hin hout
      intro K Q hK
      refine wp_load_mid 26 (.tmp 37) rfl g (o + 14) (eval_of_get e37) (bytesV tg) _ (HTG.out ▸ hP.2.1.range 14 32 (by rw [HQL.out]; decide)) Tryd.underlying26 rfl (by rw [len_bytesV, HTL.out]; exact size_dig) ?_
      exact hK _ _ ⟨Same.refl _, by rw [show (bytesV tg).toArray = bs tg from rfl]; rfl⟩
    refine alla_old rfl (step_mild 0 rfl rfl rfl (fun a x W hout hin hP => ?_)) ?_
    · have e34 := hin.is 15 34 (by kernel_rfl) (by decide) (by kernel_rfl) (by kernel_rfl) _ rfl
      have e38 := hin.is 19 38 (by kernel_rfl) (by decide) (by kernel_rfl) (by kernel_rfl) _ rfl
      clear hin hout
      intro K Q hK
      refine wp_buildStruct 28 _ rfl places_tok [.agg (clmCells c), .agg (bs tg)] ?_ (by simp [Value.cells, size_bs, HTL.out]; rfl) (by simp [Value.cells, size_bs, HTL.out]; rfl) ?_
      · simp only [List.map_toArray, List.map_cons, List.map_nil, eval_of_get e34, eval_of_get e38]; rfl
      · exact hK _ _ ⟨Same.refl _, by rw [flat_tok]; rfl⟩
    refine alla_old rfl (step_mild 0 rfl rfl rfl (fun a x W hout hin hP => ?_)) ?_
    · have hbse := hP.2.2
      clear hP hin hout
      intro K Q hK
      have hz : (Tryd.prog.info? 28).bind (·.zero) = some (.agg (tokCells clm0 (zer 32))) := zero_tok
      refine wp_new_row 28 (tokCells clm0 (zer 32)) rfl hz ?_
      exact hK _ _ ⟨Same.alloc _ _, _, rfl, Row.fresh _ _ _, hbse⟩
    refine alla_wild 0 rfl rfl rfl (fun a x W hout hin hP => ?_) ?_
    · obtain ⟨hw21, hx21⟩ := hin 21 (by kernel_rfl) (by decide)
      have hw21 := hw21 (.inr ⟨rfl, by kernel_rfl⟩)
      have hx21 := hx21 6 (by kernel_rfl)
      have e39 := hin.is 20 39 (by kernel_rfl) (by decide) (by kernel_rfl) (by kernel_rfl) _ rfl
      obtain ⟨g6, hg6, r6, hb6⟩ := hw21
      rw [hg6] at hx21
      clear hin hout
      intro K Q hK
      refine wp_store_row 28 (.tmp 6) (.tmp 39) rfl g6 (tokCells c tg) (eval_of_get hx21) (eval_of_get e39) 28 (tokCells clm0 (zer 32)) r6 (by exact HTZ.out) (by rw [HTS.out]; rfl) (one_tok _ _) ?_
      have hgr := grown_setRow W g6 (tokCells c tg)
      exact hK (x 21) _ ⟨⟨hP.1.far hgr (Nat.le_trans HB0.out hb6) (fun b hb => by have := HLT.out b hb; omega), hP.2.1.far hgr (by have := HGB.out; omega), Nat.le_trans hP.2.2 hgr.size⟩, ⟨g6, hg6, r6.setRow _, hb6⟩, al_one rfl rfl⟩
    exact all_end (by decide)
  · intro x W hP hV hal
    obtain ⟨g6, h8, r6, hb6⟩ := hV 22 (by decide) (.inr (by kernel_rfl))
    have h7 : x 21 = .pointer (some ⟨g6, 0, none⟩) := (hal 22 (by decide) 21 rfl).symm.trans h8
    have HS := hP.1
    have R6 := Lib.hid r6
    have HNE : Hid (g2 ≠ g6) := Lib.hid (by have := HLT.out ⟨g2, 28, tokCells clm0 (zer 32)⟩ (List.mem_singleton.2 rfl); have h : g2 < B0 := this; omega)
    clear hV hP hal h8 r6 hb6
    simp only [putL, Act.put, List.setIfInBounds_toArray, List.set_cons_succ, List.set_cons_zero, h7]
    simp only [Nat.zero_add, Nat.reduceAdd]
    refine wpAnyH_done (by kernel_rfl) ?_ _
    clear h7
    have HRG : Hid (W.rangeAt g6 0 (clmCells c).toList) := Lib.hid (R6.out.slab 0 _ (tok_clm c tg))
    go_wp2_with (first | (refine wpList_guarded (by rfl) (fun KK hKK => ?_); refine wp_load_mid 24 (.tmp 43) rfl g6 0 rfl (clmCells c).toList _ HRG.out Tryd.underlying24 rfl (by exact size_clm) (hKK _ _ ?_); clear hKK KK))
    refine (HMC.out W).mono ?_
    rintro e w5 ⟨rfl, hb5⟩
    have HSx := HS.same hb5
    have R6x := Lib.hid (R6.out.call hb5)
    clear HS hb5 R6 HRG
    have HS := HSx
    have R6 := R6x
    clear HSx R6x
    go_wp2_with (first | ((with_reducible refine wpList_plain ?_ ?_); exact rfl; intro KK hKK; refine wp_st_store HS 0 0 28 (.tmp 2) (.tmp 48) rfl rfl rfl (.agg #[.int .i64 0, .string ⟨#[]⟩, .int .i64 0, .int .u32 0, .int .u32 0, .int .u8 0, .int .u8 0, .int .u8 0, .int .u8 0, .int .u8 0, .int .u8 0, .int .u8 0, .int .u8 0, .int .u8 0, .int .u8 0, .int .u8 0, .int .u8 0, .int .u8 0, .int .u8 0, .int .u8 0, .int .u8 0, .int .u8 0, .int .u8 0, .int .u8 0, .int .u8 0, .int .u8 0, .int .u8 0, .int .u8 0, .int .u8 0, .int .u8 0, .int .u8 0, .int .u8 0, .int .u8 0, .int .u8 0, .int .u8 0, .int .u8 0, .int .u8 0]) rfl (by exact size_tok) (by rw [tok_size _ _ (length_zer 32)]; exact Nat.le_refl 37) (by exact zeros_one) (tokCells clm0 (zer 32)) (spl_agg _ _ _ zeros_tok (by rw [tok_size _ _ (length_zer 32)]; rfl)) (fun W41 HSx => hKK _ _ ?_); clear hKK KK HS; have HS : St w noF [⟨g2, 28, tokCells clm0 (zer 32)⟩] W41 := HSx; clear HSx))
    exact bodyPost_ret (v := .tuple #[.agg (tokCells clm0 (zer 32)), .int .i64 11]) (results_cell_tmp Tryd.results32 _ _ g2 28 (tokCells clm0 (zer 32)) (0, 0) _ rfl (HS.row 0 rfl) Tryd.underlying28 rfl (by first | exact size_tok | exact HTZ.out)) rfl ⟨rfl, HS.below⟩
set_option maxRecDepth 20000 in
set_option maxHeartbeats 1600000 in
theorem tokdec_good (g o cc : Nat) (q : List (BitVec 8)) (w : World) (hB : BAt w g o q) (hl : q.length = 46) (hc : 46 ≤ cc) (hok : (cutN ((q.drop 1).take 4)).2 = true) (hm : mayC (clmQ q) = true) :
    Calls Tryd.prog 32 #[.slice (some ⟨g, o, none⟩) 46 cc] w fun e w' => e = .returned (.tuple #[.agg (tokCells (clmQ q) (q.drop 14)), .int .i64 0]) ∧ Below w.heap.size w w' := by
  have HBA := Lib.hid hB
  have HQL := Lib.hid hl
  have HCC := Lib.hid hc
  have k1 : ¬ cc = 1 := by omega
  have k6 : ¬ cc = 6 := by omega
  have k10 : ¬ cc = 10 := by omega
  have k14 : ¬ cc = 14 := by omega
  have l1 : 1 ≤ cc := by omega
  have l6 : 6 ≤ cc := by omega
  have l10 : 10 ≤ cc := by omega
  have l14 : 14 ≤ cc := by omega
  have l46 : 46 ≤ cc := by omega
  have i1 : (1 : Int) ≤ (cc : Int) := by omega
  have hat : ∀ w, (Instr.arrayAt 50 (.slice (some ⟨g, o + 1, none⟩) 45 (cc - 1))).run Tryd.prog w = .ok (.pointer (some ⟨g, o + 1, none⟩)) w := fun w => run_arrayAt w 50 _ 4 _ 45 (cc - 1) Tryd.underlying50 (by decide)
  have i46 : (46 : Int) ≤ (cc : Int) := by omega
  obtain ⟨b4, hb4⟩ : ∃ b4, (q.drop 1).take 4 = b4 := ⟨_, rfl⟩
  have HB4 : Hid (b4.length = 4) := Lib.hid (by rw [← hb4, List.length_take, List.length_drop, hl]; rfl)
  have HB4Q := Lib.hid hb4
  obtain ⟨tg, htg⟩ : ∃ tg, (q.drop 14).take 32 = tg := ⟨_, rfl⟩
  have HTL : Hid (tg.length = 32) := Lib.hid (by rw [← htg, List.length_take, List.length_drop, hl]; rfl)
  have HTG := Lib.hid htg
  have HTE : Hid (q.drop 14 = tg) := Lib.hid (by rw [← htg, List.take_of_length_le (by rw [List.length_drop, hl]; decide)])
  obtain ⟨x0, hx0⟩ : ∃ x, q.getD 0 0#8 = x := ⟨_, rfl⟩
  obtain ⟨x5, hx5⟩ : ∃ x, q.getD 5 0#8 = x := ⟨_, rfl⟩
  obtain ⟨u, hu⟩ : ∃ u, lv 0 (q.drop 6) = u := ⟨_, rfl⟩
  obtain ⟨v, hv⟩ : ∃ v, lv 0 (q.drop 10) = v := ⟨_, rfl⟩
  have HX0 := Lib.hid hx0
  have HX5 := Lib.hid hx5
  have HU := Lib.hid hu
  have HV := Lib.hid hv
  obtain ⟨nm, hnm⟩ : ∃ nm, (cutN b4).1 = nm := ⟨_, rfl⟩
  obtain ⟨c, hcq⟩ : ∃ c, clmQ q = c := ⟨_, rfl⟩
  have HCQ : Hid (c = ⟨bd x0, nm, bd x5, u, v⟩) := Lib.hid (by rw [← hcq, ← hx0, ← hx5, ← hu, ← hv, ← hnm, ← hb4]; rfl)
  have HTS := Lib.hid (tok_size c tg HTL.out)
  have HTZ : Hid ((Tryd.prog.info? 28).map (·.size) = some (tokCells c tg).size) := Lib.hid (by rw [HTS.out]; exact size_tok)
  have HCUT := Lib.hid (fun W => cut_any b4 W HB4.out)
  rw [hb4] at hok
  rw [show cutN b4 = (nm, true) from Prod.ext hnm hok] at HCUT
  rw [hcq, HTE.out]
  rw [hcq] at hm
  have hnl : c.n.length ≤ maxLen := by
    rw [HCQ.out]
    show nm.length ≤ maxLen
    rw [← hnm]
    have := cut_len HB4.out
    unfold maxLen; omega
  have HMC := Lib.hid (fun W => maybe_any c W hnl)
  rw [hm] at HMC
  clear hm hnl
  clear hB hl hc hb4 htg hx0 hx5 hu hv hnm hcq hok
  have HS := St.nil w noF
  go_enter Tryd.func32, Tryd.ntmps32
  go_upto_region 1 with (first | ((with_reducible refine wpList_plain ?_ ?_); exact rfl; intro KK hKK; refine wp_st_alloc HS 28 (tokCells clm0 (zer 32)) rfl (.agg (tokCells clm0 (zer 32))) (by exact zero_tok) (rfl) (fun g2 W1 HSx => hKK _ _ ?_); clear hKK KK HS; have HS : St w noF [⟨g2, 28, tokCells clm0 (zer 32)⟩] W1 := HSx; clear HSx))
  have HS := HS
  obtain ⟨B0, hB0⟩ : ∃ B0, W1.heap.size = B0 := ⟨_, rfl⟩
  have HBA1 : BAt W1 g o q := HBA.out.call HS.below
  have HRB : Hid (W1.rangeAt g (o + 1) (bytesV b4)) := Lib.hid (HB4Q.out ▸ HBA1.range 1 4 (by rw [HQL.out]; decide))
  have HB0 : Hid (w.heap.size ≤ B0) := Lib.hid (by rw [← hB0]; exact HS.below.size)
  have HLT : Hid (∀ b ∈ ([⟨g2, 28, tokCells clm0 (zer 32)⟩] : List Blk), b.g < B0) := Lib.hid (by rw [← hB0]; exact fun b hb => HS.lt hb)
  have HGB : Hid (g < B0) := Lib.hid (by rw [← hB0]; exact HBA1.lt)
  have HBB : Hid (B0 ≤ W1.heap.size) := Lib.hid (Nat.le_of_eq hB0.symm)
  clear hB0
  go_wp2_with (first | ((with_reducible refine wpList_plain ?_ ?_); exact rfl; intro KK hKK; refine wp_load_mid 50 (.tmp 14) rfl g (o + 1) rfl (bytesV b4) _ HRB.out Tryd.underlying50 rfl (by rw [len_bytesV, HB4.out]; exact size_b4) (hKK _ _ ?_); clear hKK KK))
  refine (HCUT.out _).mono ?_
  rintro e w3 ⟨rfl, hb3⟩
  have HSx := HS.same hb3
  have HBAx := HBA1.call hb3
  have HBBx : B0 ≤ w3.heap.size := Nat.le_trans HBB.out hb3.size
  clear HS hb3 HBA1 HBB HRB
  have HS := HSx
  clear HSx
  go_upto_region 4 with fail
  have hF0 : Wl [fun W => St w noF [⟨g2, 28, tokCells clm0 (zer 32)⟩] W ∧ BAt W g o q ∧ B0 ≤ W.heap.size, fun W => St w noF [⟨g2, 28, tokCells clm0 (zer 32)⟩] W ∧ BAt W g o q ∧ B0 ≤ W.heap.size] 0 w3.drew := ⟨HS.drew, HBAx.call (Below.refl _ _).drew, HBBx⟩
  clear HS HBAx HBBx
  refine wp_region_phas [is (.slice (some ⟨g, o, none⟩) 46 cc), is (.pointer (some ⟨g, o, none⟩)), is (.int .u8 (bd x0)), is (.int .i64 (bd x0)), is (.string (strB nm)), is (.slice (some ⟨g, o, none⟩) 46 cc), is (.pointer (some ⟨g, o + 5, none⟩)), is (.int .u8 (bd x5)), is (.int .i64 (bd x5)), is (.slice (some ⟨g, o, none⟩) 46 cc), is (.slice (some ⟨g, o + 6, none⟩) 40 (cc - 6)), is (.int .u32 (wd u)), is (.slice (some ⟨g, o, none⟩) 46 cc), is (.slice (some ⟨g, o + 10, none⟩) 36 (cc - 10)), is (.int .u32 (wd v)), is (.agg (clmCells c)), is (.slice (some ⟨g, o, none⟩) 46 cc), is (.slice (some ⟨g, o + 14, none⟩) 32 (cc - 14)), is (.pointer (some ⟨g, o + 14, none⟩)), is (.agg (bs tg)), is (.agg (tokCells c tg)), (fun v W => ∃ k, v = Value.pointer (some ⟨k, 0, none⟩) ∧ Row W k 28 (tokCells clm0 (zer 32)) ∧ B0 ≤ k), (fun v W => ∃ k, v = Value.pointer (some ⟨k, 0, none⟩) ∧ Row W k 28 (tokCells c tg) ∧ B0 ≤ k)] [true, true, true, true, true, true, true, true, true, true, true, true, true, true, true, true, true, true, true, true, true, false, false] [(fun W => St w noF [⟨g2, 28, tokCells clm0 (zer 32)⟩] W ∧ BAt W g o q ∧ B0 ≤ W.heap.size), (fun W => St w noF [⟨g2, 28, tokCells clm0 (zer 32)⟩] W ∧ BAt W g o q ∧ B0 ≤ W.heap.size)] [false, false, false, false, false, false, false, false, false, false, false, false, false, false, false, false, false, false, false, false, false, false, true] [some 0, some 0, some 0, some 0, some 0, some 0, some 0, some 0, some 0, some 0, some 0, some 0, some 0, some 0, some 0, some 0, some 0, some 0, some 0, some 0, some 0, some 0, some 0] [none, none, none, none, none, none, none, none, none, none, none, none, none, none, none, none, none, none, none, none, none, none, some 21] [some 19, some 20, some 21, some 22, some 23, some 24, some 25, some 26, some 27, some 28, some 29, some 30, some 31, some 32, some 33, some 34, some 35, some 36, some 37, some 38, some 39, some 6, none] 23 1 (fun _ => true) rfl rfl (by kernel_rfl) (by kernel_rfl) (by kernel_rfl) (by kernel_rfl) (by kernel_rfl) ?_ ?_ ?_ ?_ ?_ ?_
  · repeat first | exact wok_nil | refine wok_cons (by first | exact fun _ _ h k => ⟨h.1.same k, h.2.1.call k, Nat.le_trans h.2.2 k.size⟩) ?_
  · repeat first | exact vok_nil | refine vok_rig (by first | exact fun _ _ _ h => h) ?_ | refine vok_soft (by first | exact fun _ _ _ h _ => h | exact fun _ _ _ h k => ⟨h.choose, h.choose_spec.1, h.choose_spec.2.1.call k, h.choose_spec.2.2⟩) ?_
  · exact hF0
  · repeat first | exact all_end (by decide) | refine all_cons (by first | exact rfl | exact ⟨rfl, fun _ _ h => Or.inl h⟩ | exact ⟨rfl, fun _ _ h => Or.inr ⟨h, rfl⟩⟩) ?_
  · refine alla_old rfl (step_mild 0 rfl rfl rfl (fun a x W hout hin hP => ?_)) ?_
    · have e0 : a.tmps[0]? = some (.slice (some ⟨g, o, none⟩) 46 cc) := (hout 0 (by kernel_rfl)).trans rfl
      exact does_move rfl e0 ⟨Same.refl _, rfl⟩
    refine alla_old rfl (step_mild 0 rfl rfl rfl (fun a x W hout hin hP => ?_)) ?_
    · have e19 := hin.is 0 19 (by kernel_rfl) (by decide) (by kernel_rfl) (by kernel_rfl) _ rfl
      clear hin hout
      intro K Q hK
      go_simp
      exact hK _ _ ⟨Same.refl _, rfl⟩
    refine alla_old rfl (step_mild 0 rfl rfl rfl (fun a x W hout hin hP => ?_)) ?_
    · have e20 := hin.is 1 20 (by kernel_rfl) (by decide) (by kernel_rfl) (by kernel_rfl) _ rfl
      have hc : W.cell? ⟨g, o, none⟩ = some (.int .u8 (bd x0)) := HX0.out ▸ hP.2.1.get 0 (by rw [HQL.out]; decide)
      clear hP
      clear hin hout
      intro K Q hK
      go_simp
      exact hK _ _ ⟨Same.refl _, rfl⟩
    refine alla_old rfl (step_mild 0 rfl rfl rfl (fun a x W hout hin hP => ?_)) ?_
    · have e21 := hin.is 2 21 (by kernel_rfl) (by decide) (by kernel_rfl) (by kernel_rfl) _ rfl
      have hw := i64_bd x0
      clear hin hout
      intro K Q hK
      go_simp
      exact hK _ _ ⟨Same.refl _, rfl⟩
    refine alla_old rfl (step_mild 0 rfl rfl rfl (fun a x W hout hin hP => ?_)) ?_
    · have e4 : a.tmps[4]? = some (.string (strB nm)) := (hout 4 (by kernel_rfl)).trans rfl
      exact does_move rfl e4 ⟨Same.refl _, rfl⟩
    refine alla_old rfl (step_mild 0 rfl rfl rfl (fun a x W hout hin hP => ?_)) ?_
    · have e0 : a.tmps[0]? = some (.slice (some ⟨g, o, none⟩) 46 cc) := (hout 0 (by kernel_rfl)).trans rfl
      exact does_move rfl e0 ⟨Same.refl _, rfl⟩
    refine alla_old rfl (step_mild 0 rfl rfl rfl (fun a x W hout hin hP => ?_)) ?_
    · have e24 := hin.is 5 24 (by kernel_rfl) (by decide) (by kernel_rfl) (by kernel_rfl) _ rfl
      clear hin hout
      intro K Q hK
      go_simp
      exact hK _ _ ⟨Same.refl _, rfl⟩
    refine alla_old rfl (step_mild 0 rfl rfl rfl (fun a x W hout hin hP => ?_)) ?_
    · have e25 := hin.is 6 25 (by kernel_rfl) (by decide) (by kernel_rfl) (by kernel_rfl) _ rfl
      have hc : W.cell? ⟨g, o + 5, none⟩ = some (.int .u8 (bd x5)) := HX5.out ▸ hP.2.1.get 5 (by rw [HQL.out]; decide)
      clear hP
      clear hin hout
      intro K Q hK
      go_simp
      exact hK _ _ ⟨Same.refl _, rfl⟩
    refine alla_old rfl (step_mild 0 rfl rfl rfl (fun a x W hout hin hP => ?_)) ?_
    · have e26 := hin.is 7 26 (by kernel_rfl) (by decide) (by kernel_rfl) (by kernel_rfl) _ rfl
      have hw := i64_bd x5
      clear hin hout
      intro K Q hK
      go_simp
      exact hK _ _ ⟨Same.refl _, rfl⟩
    refine alla_old rfl (step_mild 0 rfl rfl rfl (fun a x W hout hin hP => ?_)) ?_
    · have e0 : a.tmps[0]? = some (.slice (some ⟨g, o, none⟩) 46 cc) := (hout 0 (by kernel_rfl)).trans rfl
      exact does_move rfl e0 ⟨Same.refl _, rfl⟩
    refine alla_old rfl (step_mild 0 rfl rfl rfl (fun a x W hout hin hP => ?_)) ?_
    · have e28 := hin.is 9 28 (by kernel_rfl) (by decide) (by kernel_rfl) (by kernel_rfl) _ rfl
      clear hin hout
      intro K Q hK
      go_simp
      exact hK _ _ ⟨Same.refl _, rfl⟩
    refine alla_old rfl (step_mild 0 rfl rfl rfl (fun a x W hout hin hP => ?_)) ?_
    · have e29 := hin.is 10 29 (by kernel_rfl) (by decide) (by kernel_rfl) (by kernel_rfl) _ rfl
      have C := long_at g (o + 6) 40 (cc - 6) (q.drop 6) W (hP.2.1.drop 6) (by rw [List.length_drop, HQL.out]; decide) (by decide) (by have := HCC.out; omega)
      rw [HU.out] at C
      clear hP
      clear hin hout
      intro K Q hK
      go_simp
      refine C.mono ?_
      rintro e W' ⟨rfl, hb⟩
      exact hK _ _ ⟨hb, rfl⟩
    refine alla_old rfl (step_mild 0 rfl rfl rfl (fun a x W hout hin hP => ?_)) ?_
    · have e0 : a.tmps[0]? = some (.slice (some ⟨g, o, none⟩) 46 cc) := (hout 0 (by kernel_rfl)).trans rfl
      exact does_move rfl e0 ⟨Same.refl _, rfl⟩
    refine alla_old rfl (step_mild 0 rfl rfl rfl (fun a x W hout hin hP => ?_)) ?_
    · have e31 := hin.is 12 31 (by kernel_rfl) (by decide) (by kernel_rfl) (by kernel_rfl) _ rfl
      clear hin hout
      intro K Q hK
      go_simp
      exact hK _ _ ⟨Same.refl _, rfl⟩
    refine alla_old rfl (step_mild 0 rfl rfl rfl (fun a x W hout hin hP => ?_)) ?_
    · have e32 := hin.is 13 32 (by kernel_rfl) (by decide) (by kernel_rfl) (by kernel_rfl) _ rfl
      have C := long_at g (o + 10) 36 (cc - 10) (q.drop 10) W (hP.2.1.drop 10) (by rw [List.length_drop, HQL.out]; decide) (by decide) (by have := HCC.out; omega)
      rw [HV.out] at C
      clear hP
      clear hin hout
      intro K Q hK
      go_simp
      refine C.mono ?_
      rintro e W' ⟨rfl, hb⟩
      exact hK _ _ ⟨hb, rfl⟩
    refine alla_old rfl (step_mild 0 rfl rfl rfl (fun a x W hout hin hP => ?_)) ?_
    · have e22 := hin.is 3 22 (by kernel_rfl) (by decide) (by kernel_rfl) (by kernel_rfl) _ rfl
      have e23 := hin.is 4 23 (by kernel_rfl) (by decide) (by kernel_rfl) (by kernel_rfl) _ rfl
      have e27 := hin.is 8 27 (by kernel_rfl) (by decide) (by kernel_rfl) (by kernel_rfl) _ rfl
      have e30 := hin.is 11 30 (by kernel_rfl) (by decide) (by kernel_rfl) (by kernel_rfl) _ rfl
      have e33 := hin.is 14 33 (by kernel_rfl) (by decide) (by kernel_rfl) (by kernel_rfl) _ rfl
      clear hin hout
      intro K Q hK
      refine wp_buildStruct 24 _ rfl places_clm [.int .i64 (bd x0), .string (strB nm), .int .i64 (bd x5), .int .u32 (wd u), .int .u32 (wd v)] ?_ rfl rfl ?_
      · simp only [List.map_toArray, List.map_cons, List.map_nil, eval_of_get e22, eval_of_get e23, eval_of_get e27, eval_of_get e30, eval_of_get e33]; rfl
      · exact hK _ _ ⟨Same.refl _, by rw [HCQ.out]; rfl⟩
    refine alla_old rfl (step_mild 0 rfl rfl rfl (fun a x W hout hin hP => ?_)) ?_
    · have e0 : a.tmps[0]? = some (.slice (some ⟨g, o, none⟩) 46 cc) := (hout 0 (by kernel_rfl)).trans rfl
      exact does_move rfl e0 ⟨Same.refl _, rfl⟩
    refine alla_old rfl (step_mild 0 rfl rfl rfl (fun a x W hout hin hP => ?_)) ?_
    · have e35 := hin.is 16 35 (by kernel_rfl) (by decide) (by kernel_rfl) (by kernel_rfl) _ rfl
      clear hin hout
      intro K Q hK
      go_simp
      exact hK _ _ ⟨Same.refl _, rfl⟩
    refine alla_old rfl (step_mild 0 rfl rfl rfl (fun a x W hout hin hP => ?_)) ?_
    · have e36 := hin.is 17 36 (by kernel_rfl) (by decide) (by kernel_rfl) (by kernel_rfl) _ rfl
      have hat : ∀ w, (Instr.arrayAt 26 (.slice (some ⟨g, o + 14, none⟩) 32 (cc - 14))).run Tryd.prog w = .ok (.pointer (some ⟨g, o + 14, none⟩)) w := fun w => run_arrayAt w 26 _ 32 _ 32 (cc - 14) Tryd.underlying26 (by decide)
      clear hin hout
      intro K Q hK
      go_simp
      exact hK _ _ ⟨Same.refl _, rfl⟩
    refine alla_old rfl (step_mild 0 rfl rfl rfl (fun a x W hout hin hP => ?_)) ?_
    · have e37 := hin.is 18 37 (by kernel_rfl) (by decide) (by kernel_rfl) (by kernel_rfl) _ rfl
      clear hin hout
      intro K Q hK
      refine wp_load_mid 26 (.tmp 37) rfl g (o + 14) (eval_of_get e37) (bytesV tg) _ (HTG.out ▸ hP.2.1.range 14 32 (by rw [HQL.out]; decide)) Tryd.underlying26 rfl (by rw [len_bytesV, HTL.out]; exact size_dig) ?_
      exact hK _ _ ⟨Same.refl _, by rw [show (bytesV tg).toArray = bs tg from rfl]; rfl⟩
    refine alla_old rfl (step_mild 0 rfl rfl rfl (fun a x W hout hin hP => ?_)) ?_
    · have e34 := hin.is 15 34 (by kernel_rfl) (by decide) (by kernel_rfl) (by kernel_rfl) _ rfl
      have e38 := hin.is 19 38 (by kernel_rfl) (by decide) (by kernel_rfl) (by kernel_rfl) _ rfl
      clear hin hout
      intro K Q hK
      refine wp_buildStruct 28 _ rfl places_tok [.agg (clmCells c), .agg (bs tg)] ?_ (by simp [Value.cells, size_bs, HTL.out]; rfl) (by simp [Value.cells, size_bs, HTL.out]; rfl) ?_
      · simp only [List.map_toArray, List.map_cons, List.map_nil, eval_of_get e34, eval_of_get e38]; rfl
      · exact hK _ _ ⟨Same.refl _, by rw [flat_tok]; rfl⟩
    refine alla_old rfl (step_mild 0 rfl rfl rfl (fun a x W hout hin hP => ?_)) ?_
    · have hbse := hP.2.2
      clear hP hin hout
      intro K Q hK
      have hz : (Tryd.prog.info? 28).bind (·.zero) = some (.agg (tokCells clm0 (zer 32))) := zero_tok
      refine wp_new_row 28 (tokCells clm0 (zer 32)) rfl hz ?_
      exact hK _ _ ⟨Same.alloc _ _, _, rfl, Row.fresh _ _ _, hbse⟩
    refine alla_wild 0 rfl rfl rfl (fun a x W hout hin hP => ?_) ?_
    · obtain ⟨hw21, hx21⟩ := hin 21 (by kernel_rfl) (by decide)
      have hw21 := hw21 (.inr ⟨rfl, by kernel_rfl⟩)
      have hx21 := hx21 6 (by kernel_rfl)
      have e39 := hin.is 20 39 (by kernel_rfl) (by decide) (by kernel_rfl) (by kernel_rfl) _ rfl
      obtain ⟨g6, hg6, r6, hb6⟩ := hw21
      rw [hg6] at hx21
      clear hin hout
      intro K Q hK
      refine wp_store_row 28 (.tmp 6) (.tmp 39) rfl g6 (tokCells c tg) (eval_of_get hx21) (eval_of_get e39) 28 (tokCells clm0 (zer 32)) r6 (by exact HTZ.out) (by rw [HTS.out]; rfl) (one_tok _ _) ?_
      have hgr := grown_setRow W g6 (tokCells c tg)
      exact hK (x 21) _ ⟨⟨hP.1.far hgr (Nat.le_trans HB0.out hb6) (fun b hb => by have := HLT.out b hb; omega), hP.2.1.far hgr (by have := HGB.out; omega), Nat.le_trans hP.2.2 hgr.size⟩, ⟨g6, hg6, r6.setRow _, hb6⟩, al_one rfl rfl⟩
    exact all_end (by decide)
  · intro x W hP hV hal
    obtain ⟨g6, h8, r6, hb6⟩ := hV 22 (by decide) (.inr (by kernel_rfl))
    have h7 : x 21 = .pointer (some ⟨g6, 0, none⟩) := (hal 22 (by decide) 21 rfl).symm.trans h8
    have HS := hP.1
    have R6 := Lib.hid r6
    have HNE : Hid (g2 ≠ g6) := Lib.hid (by have := HLT.out ⟨g2, 28, tokCells clm0 (zer 32)⟩ (List.mem_singleton.2 rfl); have h : g2 < B0 := this; omega)
    clear hV hP hal h8 r6 hb6
    simp only [putL, Act.put, List.setIfInBounds_toArray, List.set_cons_succ, List.set_cons_zero, h7]
    simp only [Nat.zero_add, Nat.reduceAdd]
    refine wpAnyH_done (by kernel_rfl) ?_ _
    clear h7
    have HRG : Hid (W.rangeAt g6 0 (clmCells c).toList) := Lib.hid (R6.out.slab 0 _ (tok_clm c tg))
    go_wp2_with (first | (refine wpList_guarded (by rfl) (fun KK hKK => ?_); refine wp_load_mid 24 (.tmp 43) rfl g6 0 rfl (clmCells c).toList _ HRG.out Tryd.underlying24 rfl (by exact size_clm) (hKK _ _ ?_); clear hKK KK))
    refine (HMC.out W).mono ?_
    rintro e w5 ⟨rfl, hb5⟩
    have HSx := HS.same hb5
    have R6x := Lib.hid (R6.out.call hb5)
    clear HS hb5 R6 HRG
    have HS := HSx
    have R6 := R6x
    clear HSx R6x
    go_wp2_with (first | ((with_reducible refine wpList_plain ?_ ?_); exact rfl; intro KK hKK; refine wp_load_row 28 (.tmp 6) rfl g6 rfl 28 (tokCells c tg) (0, 0) _ R6.out Tryd.underlying28 rfl (by exact HTZ.out) (hKK _ _ ?_); clear hKK KK) | ((with_reducible refine wpList_plain ?_ ?_); exact rfl; intro KK hKK; refine wp_st_store HS 0 0 28 (.tmp 2) (.tmp 49) rfl rfl rfl (.agg (tokCells c tg)) rfl (by exact HTZ.out) (by rw [Nat.zero_add, show Value.cells (.agg (tokCells c tg)) = tokCells c tg from rfl, HTS.out]; exact Nat.le_refl 37) (by exact one_tok _ _) (tokCells c tg) (spl_agg _ _ _ rfl (by rw [HTS.out]; rfl)) (fun W41 HSx => hKK _ _ ?_); clear hKK KK HS; have HS : St w noF [⟨g2, 28, tokCells c tg⟩] W41 := HSx; clear HSx))
    exact bodyPost_ret (v := .tuple #[.agg (tokCells c tg), .int .i64 0]) (results_cell_tmp Tryd.results32 _ _ g2 28 (tokCells c tg) (0, 0) _ rfl (HS.row 0 rfl) Tryd.underlying28 rfl (by first | exact size_tok | exact HTZ.out)) rfl ⟨rfl, HS.below⟩
end Go.Proofs.YtobklbfcnbmnmaaDoor

/- Two tokens compared; what tokens' bytes come to. -/
set_option maxRecDepth 4000
namespace Go.Proofs.YtobklbfcnbmnmaaDoor
open Go Go.RowKit
theorem eql_clmD (a b : Clm) (w : World) : (Op.equalIn 9999 24 (.agg (clmCells a)) (.agg (clmCells b))).run Tryd.prog w = .ok (decide (a = b)) w := by
  have hS : Tryd.prog.underlying 24 = some (.struct (Tryd.prog.fieldsOf 24)) := by kernel_rfl
  obtain ⟨p, n, r, u, g⟩ := a
  obtain ⟨p', n', r', u', g'⟩ := b
  have e : decide ((⟨p, n, r, u, g⟩ : Clm) = ⟨p', n', r', u', g'⟩) = (p == p' && (((strB n).toList == (strB n').toList) && (r == r' && (wd u == wd u' && wd g == wd g')))) := by
    rw [str_beq]
    by_cases h : (⟨p, n, r, u, g⟩ : Clm) = ⟨p', n', r', u', g'⟩
    · rw [decide_eq_true h]
      injection h with h1 h2 h3 h4 h5
      subst h1 h2 h3 h4 h5
      simp
    · rw [decide_eq_false h]
      symm
      cases hx : (p == p' && (decide (n = n') && (r == r' && (wd u == wd u' && wd g == wd g')))) with
      | false => rfl
      | true =>
        simp only [Bool.and_eq_true, beq_iff_eq, decide_eq_true_eq] at hx
        obtain ⟨h1, h2, h3, h4, h5⟩ := hx
        exact absurd (by rw [h1, h2, h3, wd_inj h4, wd_inj h5]) h
  rw [e, show (9999 : Nat) = 9998 + 1 from rfl, run_equalIn_agg w 9998 24 _ _ hS (by kernel_rfl)]
  unfold clmCells
  have u1 := Tryd.underlying22
  have u2 := Tryd.underlying3
  have u3 := Tryd.underlying9
  simp only [Program.fieldsOf, Tryd.underlying24]
  generalize wd u = a1
  generalize wd g = a2
  generalize wd u' = b1
  generalize wd g' = b2
  generalize strB n = s
  generalize strB n' = s'
  go_simp
  by_cases h1 : p = p' <;> by_cases h2 : s.toList = s'.toList <;> by_cases h3 : r = r' <;> by_cases h4 : a1 = b1 <;> by_cases h5 : a2 = b2 <;> simp [h1, h2, h3, h4, h5]
theorem take_tok (c : Clm) (t : List (BitVec 8)) : (tokCells c t).extract 0 5 = clmCells c := by
  unfold tokCells
  rw [Array.extract_append]
  simp [clmCells]
theorem drop_tok (c : Clm) (t : List (BitVec 8)) (h : t.length = 32) : (tokCells c t).extract 5 37 = bs t := by
  unfold tokCells
  rw [Array.extract_append]
  have h5 : (clmCells c).size = 5 := rfl
  rw [h5, Array.extract_empty_of_size_le_start (by rw [h5]; exact Nat.le_refl 5), Array.empty_append, show 5 - 5 = 0 from rfl, show 37 - 5 = (bs t).size by rw [size_bs, h], Array.extract_size]
theorem eql_tok (a b : Clm) (p q : List (BitVec 8)) (hp : p.length = 32) (hq : q.length = 32) (w : World) : (Op.equalIn 10000 28 (.agg (tokCells a p)) (.agg (tokCells b q))).run Tryd.prog w = .ok (decide (a = b ∧ p = q)) w := by
  have hS : Tryd.prog.underlying 28 = some (.struct (Tryd.prog.fieldsOf 28)) := by kernel_rfl
  have h3 : ∀ w, (Op.equalIn 9999 26 (.agg (bs p)) (.agg (bs q))).run Tryd.prog w = .ok (decide (p = q)) w := fun w => equal_bytesD 9997 26 32 p q hp hq Tryd.underlying26 w
  have e : decide (a = b ∧ p = q) = (a.p == b.p && (((strB a.n).toList == (strB b.n).toList) && (a.r == b.r && (wd a.u == wd b.u && (wd a.g == wd b.g && decide (p = q)))))) := by
    rw [str_beq]
    by_cases h : a = b
    · subst h; simp
    · rw [decide_eq_false (fun k => h k.1)]
      symm
      cases hx : (a.p == b.p && (decide (a.n = b.n) && (a.r == b.r && (wd a.u == wd b.u && (wd a.g == wd b.g && decide (p = q)))))) with
      | false => rfl
      | true =>
        simp only [Bool.and_eq_true, beq_iff_eq, decide_eq_true_eq] at hx
        obtain ⟨h1, h2, h3, h4, h5, _⟩ := hx
        obtain ⟨p, n, r, u, g⟩ := a
        obtain ⟨p', n', r', u', g'⟩ := b
        simp only at h1 h2 h3 h4 h5
        exact absurd (by rw [h1, h2, h3, wd_inj h4, wd_inj h5]) h
  rw [e, show (10000 : Nat) = 9999 + 1 from rfl, run_equalIn_agg w 9999 28 _ _ hS (by kernel_rfl)]
  simp only [Program.fieldsOf, Tryd.underlying28]
  go_simp
  rw [take_tok, take_tok, drop_tok a p hp, drop_tok b q hq]
  clear e hp hq
  have u1 := Tryd.underlying22
  have u2 := Tryd.underlying3
  have u3 := Tryd.underlying9
  unfold clmCells
  generalize decide (p = q) = D at *
  generalize bs p = P at *
  generalize bs q = Q at *
  generalize wd a.u = a1
  generalize wd a.g = a2
  generalize wd b.u = b1
  generalize wd b.g = b2
  generalize strB a.n = s
  generalize strB b.n = s'
  generalize a.p = k
  generalize b.p = k'
  generalize a.r = r
  generalize b.r = r'
  go_simp
  cases D <;> by_cases h1 : k = k' <;> by_cases h2 : s.toList = s'.toList <;> by_cases h3 : r = r' <;> by_cases h4 : a1 = b1 <;> by_cases h5 : a2 = b2 <;> simp [h1, h2, h3, h4, h5]
end Go.Proofs.YtobklbfcnbmnmaaDoor

/- Tokens and their bytes: each is told by the other. -/
set_option maxRecDepth 4000
namespace Go.Proofs.YtobklbfcnbmnmaaDoor
open Go Go.RowKit
theorem bd_byteI {z : Int} (h0 : 0 ≤ z) (h1 : z < 256) : bd (byteI z) = z := (bd_of z h0 h1).symm
theorem byteI_bd (x : BitVec 8) : byteI (bd x) = x := bd_inj (bd_byteI (bd_lo x) (bd_hi x))
theorem cut_name {n : List (BitVec 8)} (h : n = [] ∨ goodN n = true) : cutN (padN n) = (n, true) := by
  rcases h with rfl | h
  · decide
  · exact cut_pad h
theorem may_parts {c : Clm} (h : mayC c = true) : 0 ≤ c.p ∧ c.p < 4 ∧ (c.n = [] ∨ goodN c.n = true) ∧ 1 ≤ c.r ∧ c.r ≤ 3 := by
  unfold mayC at h
  simp only [Bool.and_eq_true, decide_eq_true_eq, Bool.or_eq_true] at h
  exact ⟨h.1.1.1.1, h.1.1.1.2, h.1.1.2, h.1.2, h.2⟩
theorem may_len {c : Clm} (h : mayC c = true) : c.n.length ≤ 4 := by
  rcases (may_parts h).2.2.1 with h | h
  · rw [h]; decide
  · exact (good_len h).2.1
theorem lv_le (v : BitVec 32) (r : List (BitVec 8)) : lv 0 (le v 4 ++ r) = v := by
  rw [lv_num _ 0 (by rw [List.length_append, len_le4]; omega), List.drop_zero, List.take_left' (len_le4 v), num_le4]
theorem tok_parts (c : Clm) (t : List (BitVec 8)) :
    (clmB c ++ t).getD 0 0#8 = byteI c.p ∧ ((clmB c ++ t).drop 1).take 4 = padN c.n ∧ (clmB c ++ t).getD 5 0#8 = byteI c.r ∧ (clmB c ++ t).drop 6 = le c.u 4 ++ (le c.g 4 ++ t) ∧ (clmB c ++ t).drop 10 = le c.g 4 ++ t ∧ (clmB c ++ t).drop 14 = t := by
  obtain ⟨a1, a2, a3, a4, ha⟩ := list4 (length_padN c.n)
  have hu : le c.u 4 = [(le c.u 4).getD 0 0#8, (le c.u 4).getD 1 0#8, (le c.u 4).getD 2 0#8, (le c.u 4).getD 3 0#8] := by rw [le4]; rfl
  have hg : le c.g 4 = [(le c.g 4).getD 0 0#8, (le c.g 4).getD 1 0#8, (le c.g 4).getD 2 0#8, (le c.g 4).getD 3 0#8] := by rw [le4]; rfl
  unfold clmB
  rw [ha, hu, hg]
  exact ⟨rfl, rfl, rfl, rfl, rfl, rfl⟩
theorem tok_back {c : Clm} {t : List (BitVec 8)} (h : mayC c = true) (ht : t.length = 32) : tokOk (clmB c ++ t) = true ∧ clmQ (clmB c ++ t) = c ∧ (clmB c ++ t).drop 14 = t := by
  obtain ⟨h1, h2, h3, h4, h5, h6⟩ := tok_parts c t
  obtain ⟨k1, k2, k3, k4, k5⟩ := may_parts h
  have hq : clmQ (clmB c ++ t) = c := by
    unfold clmQ
    rw [h1, h2, h3, h4, h5, cut_name k3, lv_le, lv_le, bd_byteI k1 (by omega), bd_byteI (by omega) (by omega)]
  refine ⟨?_, hq, h6⟩
  unfold tokOk
  rw [hq, h, h2, cut_name k3, decide_eq_true (by rw [List.length_append, length_clmB, ht])]
  rfl
theorem tok_ok {q : List (BitVec 8)} (h : tokOk q = true) : q.length = 46 ∧ (cutN ((q.drop 1).take 4)).2 = true ∧ mayC (clmQ q) = true := by
  unfold tokOk at h
  simp only [Bool.and_eq_true, decide_eq_true_eq] at h
  exact ⟨h.1.1, h.1.2, h.2⟩
theorem tok_forth {q : List (BitVec 8)} (h : tokOk q = true) : clmB (clmQ q) ++ q.drop 14 = q := by
  obtain ⟨hl, hc, _⟩ := tok_ok h
  have hb : ((q.drop 1).take 4).length = 4 := by rw [List.length_take, List.length_drop, hl]; rfl
  have e6 : le (lv 0 (q.drop 6)) 4 = (q.drop 6).take 4 := by rw [le_lv _ 0 (by rw [List.length_drop, hl]; decide), List.drop_zero]
  have e10 : le (lv 0 (q.drop 10)) 4 = (q.drop 10).take 4 := by rw [le_lv _ 0 (by rw [List.length_drop, hl]; decide), List.drop_zero]
  unfold clmB clmQ
  simp only
  rw [byteI_bd, byteI_bd, (cut_ok hb hc).1, e6, e10]
  clear e6 e10 hb h hc
  obtain ⟨r, s, hr, rfl⟩ : ∃ r s, r.length = 14 ∧ q = r ++ s := ⟨q.take 14, q.drop 14, by rw [List.length_take, hl]; rfl, (List.take_append_drop 14 q).symm⟩
  clear hl
  match r, hr with
  | [a0, a1, a2, a3, a4, a5, a6, a7, a8, a9, b0, b1, b2, b3], _ => rfl
theorem tok_inj {a b : Clm} {p q : List (BitVec 8)} (ha : mayC a = true) (hb : mayC b = true) (hp : p.length = 32) (hq : q.length = 32) : (clmB a ++ p = clmB b ++ q) ↔ (a = b ∧ p = q) := by
  constructor
  · intro h
    have h1 := tok_back ha hp
    have h2 := tok_back hb hq
    rw [h] at h1
    exact ⟨h1.2.1.symm.trans h2.2.1, h1.2.2.symm.trans h2.2.2⟩
  · rintro ⟨rfl, rfl⟩; rfl
/- Decode, whole -/
def decC (q : List (BitVec 8)) : Clm := if tokOk q then clmQ q else clm0
def decG (q : List (BitVec 8)) : List (BitVec 8) := if tokOk q then q.drop 14 else zer 32
def decT (q : List (BitVec 8)) : Int := if tokOk q then 0 else 11
theorem length_decG (q : List (BitVec 8)) : (decG q).length = 32 := by
  unfold decG
  split
  · rename_i h; rw [List.length_drop, (tok_ok h).1]
  · exact length_zer 32
theorem decC_len (q : List (BitVec 8)) : (decC q).n.length ≤ 4 := by
  unfold decC
  split
  · rename_i h; exact may_len (tok_ok h).2.2
  · decide
theorem tokdec_any (A : Option Addr) (cc : Nat) (q : List (BitVec 8)) (n : Nat) (hn : q.length = n) (w : World) (hs : Slice w (.slice A n cc) q) :
    Calls Tryd.prog 32 #[.slice A n cc] w fun e w' => e = .returned (.tuple #[.agg (tokCells (decC q) (decG q)), .int .i64 (decT q)]) ∧ Below w.heap.size w w' := by
  subst hn
  by_cases hl : q.length = 46
  · obtain ⟨g, o, rfl, hb, hc⟩ := slice_bat hs (by omega)
    rw [hl] at hc ⊢
    cases hok : (cutN ((q.drop 1).take 4)).2 with
    | false =>
      have ht : tokOk q = false := by unfold tokOk; rw [hok, Bool.and_false, Bool.false_and]
      unfold decC decG decT
      rw [ht]
      exact tokdec_no g o cc q w hb hl hc hok
    | true =>
      cases hm : mayC (clmQ q) with
      | false =>
        have ht : tokOk q = false := by unfold tokOk; rw [hm, Bool.and_false]
        unfold decC decG decT
        rw [ht]
        exact tokdec_not g o cc q w hb hl hc hok hm
      | true =>
        have ht : tokOk q = true := by unfold tokOk; rw [hm, hok, decide_eq_true hl]; rfl
        unfold decC decG decT
        rw [ht]
        exact tokdec_good g o cc q w hb hl hc hok hm
  · have ht : tokOk q = false := by unfold tokOk; rw [decide_eq_false hl, Bool.false_and, Bool.false_and]
    unfold decC decG decT
    rw [ht]
    exact tokdec_len A q.length cc w hl
end Go.Proofs.YtobklbfcnbmnmaaDoor

/- Requests: what they are, their bytes, plainly. No function of the program is named here. -/
set_option maxRecDepth 4000
namespace Go.Proofs.YtobklbfcnbmnmaaDoor
open Go Go.RowKit
structure Asq where
  k : Int
  c : Clm
  t : List (BitVec 8)
  v : List (BitVec 8)
  z : Int
  d : List (BitVec 8)
  deriving DecidableEq
/- right lengths, as memory has them -/
structure Asq.Ok (X : Asq) : Prop where
  t : X.t.length = 32
  d : X.d.length = 32
  n : X.c.n.length ≤ maxLen
  v : X.v.length ≤ maxLen
def ask0 : Asq := ⟨0, clm0, zer 32, [], 0, zer 32⟩
def askL (X : Asq) : List Value := .int .i64 X.k :: ((clmCells X.c).toList ++ (bytesV X.t ++ (.string (strB X.v) :: .int .i64 X.z :: bytesV X.d)))
def askC (X : Asq) : Array Value := (askL X).toArray
def mayA (X : Asq) : Bool := mayC X.c && ((decide (X.k = 2) || (decide (X.k = 1) && decide (X.d = blk 0#8))) && (goodN X.v && (decide (0 ≤ X.z) && decide (X.z ≤ 255))))
def hedA (X : Asq) : List (BitVec 8) := [byteI X.k] ++ (clmB X.c ++ X.t) ++ padN X.v ++ [byteI X.z]
def bodA (X : Asq) : List (BitVec 8) := hedA X ++ if X.k = 2 then X.d else []
def encA (X : Asq) : List (BitVec 8) := bodA X ++ two (crcOf (bodA X))
theorem length_hedA {X : Asq} (h : X.t.length = 32) : (hedA X).length = 52 := by unfold hedA; simp [length_clmB, length_padN, h]
theorem len_askL {X : Asq} (h : X.Ok) : (askL X).length = 72 := by
  unfold askL
  have h1 : (clmCells X.c).toList.length = 5 := rfl
  simp only [List.length_cons, List.length_append, len_bytesV, h.t, h.d, h1]
theorem size_askC {X : Asq} (h : X.Ok) : (askC X).size = 72 := by unfold askC; rw [List.size_toArray]; exact len_askL h
/- the parts at their places -/
theorem ask_cut {X : Asq} (h : X.Ok) : (askL X).drop 38 = .string (strB X.v) :: .int .i64 X.z :: bytesV X.d := by
  unfold askL
  have h1 : (clmCells X.c).toList.length = 5 := rfl
  rw [show (38 : Nat) = 37 + 1 from rfl, List.drop_succ_cons, ← List.append_assoc]
  exact List.drop_left' (by rw [List.length_append, len_bytesV, h.t, h1])
theorem ask_38 {X : Asq} (h : X.Ok) : (askC X)[38]? = some (.string (strB X.v)) := by
  unfold askC
  have := congrArg (fun l : List Value => l[0]?) (ask_cut h)
  simpa using this
theorem ask_39 {X : Asq} (h : X.Ok) : (askC X)[39]? = some (.int .i64 X.z) := by
  unfold askC
  have := congrArg (fun l : List Value => l[1]?) (ask_cut h)
  simpa using this
theorem ask_clm (X : Asq) : ((askC X).toList.drop 1).take (clmCells X.c).size = (clmCells X.c).toList := by
  unfold askC askL
  rw [List.drop_succ_cons, List.drop_zero, ← Array.length_toList]
  exact List.take_left' rfl
theorem ask_tok (X : Asq) : ((askC X).toList.drop 1).take (tokCells X.c X.t).size = (tokCells X.c X.t).toList := by
  unfold askC askL tokCells
  rw [List.drop_succ_cons, List.drop_zero, ← List.append_assoc, ← Array.length_toList, Array.toList_append, bs_toList]
  exact List.take_left' rfl
theorem ask_dat {X : Asq} (h : X.Ok) : ((askC X).toList.drop 40).take (bs X.d).size = (bs X.d).toList := by
  have e : (askC X).toList.drop 40 = bytesV X.d := by
    show (askL X).drop (38 + 2) = _
    rw [← List.drop_drop, ask_cut h]
    rfl
  rw [e, ← Array.length_toList, bs_toList]
  exact List.take_of_length_le (Nat.le_refl _)
theorem mayA_parts {X : Asq} (h : mayA X = true) : mayC X.c = true ∧ (X.k = 2 ∨ X.k = 1 ∧ X.d = blk 0#8) ∧ goodN X.v = true ∧ 0 ≤ X.z ∧ X.z ≤ 255 := by
  unfold mayA at h
  simp only [Bool.and_eq_true, Bool.or_eq_true, decide_eq_true_eq] at h
  exact ⟨h.1, h.2.1, h.2.2.1, h.2.2.2.1, h.2.2.2.2⟩
theorem mayA_of {X : Asq} (h1 : mayC X.c = true) (h2 : X.k = 2 ∨ X.k = 1 ∧ X.d = blk 0#8) (h3 : goodN X.v = true) (h4 : 0 ≤ X.z) (h5 : X.z ≤ 255) : mayA X = true := by
  unfold mayA
  simp only [Bool.and_eq_true, Bool.or_eq_true, decide_eq_true_eq]
  exact ⟨h1, h2, h3, h4, h5⟩
theorem mayA_no {X : Asq} (h : ¬ (mayC X.c = true ∧ (X.k = 2 ∨ X.k = 1 ∧ X.d = blk 0#8) ∧ goodN X.v = true ∧ 0 ≤ X.z ∧ X.z ≤ 255)) : mayA X = false := by
  cases hm : mayA X with
  | false => rfl
  | true => exact (h (mayA_parts hm)).elim
end Go.Proofs.YtobklbfcnbmnmaaDoor

/- The program's ask: may there be such a request. -/
set_option maxRecDepth 4000
namespace Go.Proofs.YtobklbfcnbmnmaaDoor
open Go Go.RowKit
theorem size_ask : (Tryd.prog.info? 31).map (·.size) = some 72 := by kernel_rfl
attribute [local go_sem] strB_size
attribute [local go_sem high] eql_blk
set_option maxHeartbeats 1600000 in
theorem amay_any (X : Asq) (w : World) (h : X.Ok) : Calls Tryd.prog 17 #[.agg (askC X)] w fun e w' => e = .returned (.bool (mayA X)) ∧ Below w.heap.size w w' := by
  have HOK := Lib.hid h
  have HCB := Lib.hid (fun W => claim_bad X.c W h.n)
  have HCG := Lib.hid (fun W => claim_good X.c W h.n)
  have HGD : Hid (∀ W : World, Calls Tryd.prog 29 #[.slice (some ⟨W.heap.size, 0, none⟩) 1 1] (W.alloc (.cells #[.string (strB X.v)] 9)) fun e w' => e = .returned (.bool (goodN X.v)) ∧ Below W.heap.size W w') := Lib.hid fun W => by
    refine (good_any [X.v] _ _ (strs1 W X.v h.v 9) (by unfold maxLen; simp)).mono ?_
    rintro e w' ⟨rfl, hb⟩
    exact ⟨by unfold goodNs; simp, ((Below.refl W.heap.size W).alloc (Nat.le_refl _) _).trans (hb.mono (by simp))⟩
  clear h
  have HS := St.nil w noF
  go_enter Tryd.func17, Tryd.ntmps17
  go_upto_region 1 with (first | ((with_reducible refine wpList_plain ?_ ?_); exact rfl; intro KK hKK; refine wp_st_box HS 31 (.tmp 0) rfl _ rfl (askC X) (rfl) (fun g1 W1 HSx => hKK _ _ ?_); clear hKK KK HS; have HS : St w noF [⟨g1, 31, askC X⟩] W1 := HSx; clear HSx))
  cases hc : mayC X.c with
  | false =>
    have C := HCB.out W1 hc
    have hG : mayA X = false := mayA_no (fun h => by rw [hc] at h; cases h.1)
    clear hc
    go_wp2_with (first | ((with_reducible refine wpList_plain ?_ ?_); exact rfl; intro KK hKK; refine wp_st_load HS 0 1 24 (.tmp 7) rfl rfl rfl (clmCells X.c) (ask_clm X) _ Tryd.underlying24 rfl (by exact size_clm) (hKK _ _ ?_); clear hKK KK))
    refine C.mono ?_
    rintro e w2 ⟨rfl, hb⟩
    have HB := Lib.hid (HS.below.trans (hb.mono HS.below.size))
    clear HS C hb
    go_wp2_with fail
    go_ret
    exact ⟨by rw [hG]; rfl, HB.out⟩
  | true =>
    have C := HCG.out W1 hc
    have HMC := Lib.hid hc
    clear hc HCB HCG
    go_wp2_with (first | ((with_reducible refine wpList_plain ?_ ?_); exact rfl; intro KK hKK; refine wp_st_load HS 0 1 24 (.tmp 7) rfl rfl rfl (clmCells X.c) (ask_clm X) _ Tryd.underlying24 rfl (by exact size_clm) (hKK _ _ ?_); clear hKK KK))
    refine C.mono ?_
    rintro e w2 ⟨v2, rfl, _, hb⟩
    have HSx := HS.same hb
    clear HS C hb
    have HS := HSx
    clear HSx
    have HB := Lib.hid HS.below
    have c0 : w2.cell? ⟨g1, 0, none⟩ = some (.int .i64 X.k) := (HS.row 0 rfl).get rfl
    have c38 : w2.cell? ⟨g1, 38, none⟩ = some (.string (strB X.v)) := (HS.row 0 rfl).get (ask_38 HOK.out)
    have HC39 : Hid (∀ W, Below w2.heap.size w2 W → W.cell? ⟨g1, 39, none⟩ = some (.int .i64 X.z)) := Lib.hid (fun W hb => ((HS.row 0 rfl).call hb).get (ask_39 HOK.out))
    have CG := HGD.out w2
    obtain ⟨gv, hgv⟩ : ∃ gv, goodN X.v = gv := ⟨_, rfl⟩
    rw [hgv] at CG
    have HGV := Lib.hid hgv
    clear hgv HGD
    obtain ⟨z, hz⟩ : ∃ z, X.z = z := ⟨_, rfl⟩
    rw [hz] at HC39
    have HZ := Lib.hid hz
    obtain ⟨k, hk⟩ : ∃ k, X.k = k := ⟨_, rfl⟩
    rw [hk] at c0
    have HK := Lib.hid hk
    clear hz hk
    by_cases h2 : k = 2
    · have HKD : Hid (X.k = 2 ∨ X.k = 1 ∧ X.d = blk 0#8) := Lib.hid (.inl (by rw [HK.out, h2]))
      subst h2
      go_wp2_with fail
      refine CG.mono ?_
      rintro e w3 ⟨rfl, hb⟩
      have c39 := HC39.out w3 hb
      have HB3 := Lib.hid (HB.out.trans (hb.mono HB.out.size))
      clear HS
      clear CG hb c0 c38
      cases gv with
      | false =>
        have hG : mayA X = false := mayA_no (fun h => by have := h.2.2.1; rw [HGV.out] at this; cases this)
        go_wp2_with fail
        go_ret
        exact ⟨by rw [hG]; rfl, HB3.out⟩
      | true =>
        by_cases h0 : z < 0
        · have d0 : decide (0 ≤ z) = false := decide_eq_false (by omega)
          have hG : mayA X = false := mayA_no (fun h => by have := h.2.2.2.1; rw [HZ.out] at this; omega)
          go_wp2_with fail
          go_ret
          exact ⟨by rw [hG]; rfl, HB3.out⟩
        have d0 : decide (0 ≤ z) = true := decide_eq_true (by omega)
        by_cases h255 : 255 < z
        · have d1 : decide (z ≤ 255) = false := decide_eq_false (by omega)
          have hG : mayA X = false := mayA_no (fun h => by have := h.2.2.2.2; rw [HZ.out] at this; omega)
          go_wp2_with fail
          go_ret
          exact ⟨by rw [hG]; rfl, HB3.out⟩
        have d1 : decide (z ≤ 255) = true := decide_eq_true (by omega)
        have hG : mayA X = true := mayA_of HMC.out HKD.out HGV.out (by rw [HZ.out]; omega) (by rw [HZ.out]; omega)
        go_wp2_with fail
        go_ret
        exact ⟨by rw [hG]; rfl, HB3.out⟩
    have e2 : (k == 2) = false := beq_eq_false_iff_ne.2 h2
    by_cases h1 : k = 1
    case neg =>
      have e1 : (k == 1) = false := beq_eq_false_iff_ne.2 h1
      have hG : mayA X = false := mayA_no (fun h => by rcases h.2.1 with h | h; exact h2 (by rw [← HK.out, h]); exact h1 (by rw [← HK.out, h.1]))
      clear HS
      go_wp2_with fail
      go_ret
      exact ⟨by rw [hG]; rfl, HB.out⟩
    have hz := zeros_blk
    have q0 := eql_blk X.d (blk 0#8) HOK.out.d (length_blk _)
    by_cases hd : X.d = blk 0#8
    · have HKD : Hid (X.k = 2 ∨ X.k = 1 ∧ X.d = blk 0#8) := Lib.hid (.inr ⟨by rw [HK.out, h1], hd⟩)
      rw [decide_eq_true hd] at q0
      subst h1
      clear hd e2 h2
      go_wp2_with (first | (refine wpList_guarded (by rfl) (fun KK hKK => ?_); refine wp_st_load HS 0 40 29 (.tmp 23) rfl rfl rfl (bs X.d) (ask_dat HOK.out) _ Tryd.underlying29 rfl (by rw [size_bs, HOK.out.d]; exact size_blk) (hKK _ _ ?_); clear hKK KK))
      refine CG.mono ?_
      rintro e w3 ⟨rfl, hb⟩
      have c39 := HC39.out w3 hb
      have HB3 := Lib.hid (HB.out.trans (hb.mono HB.out.size))
      clear HS hz q0
      clear CG hb c0 c38
      cases gv with
      | false =>
        have hG : mayA X = false := mayA_no (fun h => by have := h.2.2.1; rw [HGV.out] at this; cases this)
        go_wp2_with fail
        go_ret
        exact ⟨by rw [hG]; rfl, HB3.out⟩
      | true =>
        by_cases h0 : z < 0
        · have d0 : decide (0 ≤ z) = false := decide_eq_false (by omega)
          have hG : mayA X = false := mayA_no (fun h => by have := h.2.2.2.1; rw [HZ.out] at this; omega)
          go_wp2_with fail
          go_ret
          exact ⟨by rw [hG]; rfl, HB3.out⟩
        have d0 : decide (0 ≤ z) = true := decide_eq_true (by omega)
        by_cases h255 : 255 < z
        · have d1 : decide (z ≤ 255) = false := decide_eq_false (by omega)
          have hG : mayA X = false := mayA_no (fun h => by have := h.2.2.2.2; rw [HZ.out] at this; omega)
          go_wp2_with fail
          go_ret
          exact ⟨by rw [hG]; rfl, HB3.out⟩
        have d1 : decide (z ≤ 255) = true := decide_eq_true (by omega)
        have hG : mayA X = true := mayA_of HMC.out HKD.out HGV.out (by rw [HZ.out]; omega) (by rw [HZ.out]; omega)
        go_wp2_with fail
        go_ret
        exact ⟨by rw [hG]; rfl, HB3.out⟩
    · have hG : mayA X = false := mayA_no (fun h => by rcases h.2.1 with h | h; exact h2 (by rw [← HK.out, h]); exact hd h.2)
      rw [decide_eq_false hd] at q0
      subst h1
      clear hd e2 h2
      go_wp2_with (first | (refine wpList_guarded (by rfl) (fun KK hKK => ?_); refine wp_st_load HS 0 40 29 (.tmp 23) rfl rfl rfl (bs X.d) (ask_dat HOK.out) _ Tryd.underlying29 rfl (by rw [size_bs, HOK.out.d]; exact size_blk) (hKK _ _ ?_); clear hKK KK))
      go_ret
      exact ⟨by rw [hG]; rfl, HB.out⟩
end Go.Proofs.YtobklbfcnbmnmaaDoor

/- The program's ask: a request's bytes. -/
set_option maxRecDepth 4000
namespace Go.Proofs.YtobklbfcnbmnmaaDoor
open Go Go.RowKit
theorem ask_slice {w : World} {g : Nat} {t : TypeId} {X : Asq} (h : X.Ok) (hr : Row w g t (askC X)) : Slice w (.slice (some ⟨g, 40, none⟩) 32 32) X.d := by
  refine ⟨some ⟨g, 40, none⟩, 32, by rw [h.d], by rw [h.d]; exact Nat.le_refl _, fun _ => ⟨g, 40, rfl, hr.lt, fun j x hx => ?_⟩⟩
  refine hr.get ?_
  have e : (askL X).drop 40 = bytesV X.d := by
    show (askL X).drop (38 + 2) = _
    rw [← List.drop_drop, ask_cut h]
    rfl
  unfold askC
  rw [List.getElem?_toArray, ← List.getElem?_drop, e]
  simp [bytesV, hx]
set_option maxHeartbeats 800000 in
theorem askenc_bad (X : Asq) (w : World) (h : X.Ok) (hc : mayA X = false) : Calls Tryd.prog 8 #[.agg (askC X)] w fun x w' => x = .returned (.tuple #[.slice none 0 0, .int .i64 11]) ∧ Below w.heap.size w w' := by
  have C := Lib.hid (fun W => amay_any X W h)
  rw [hc] at C
  have HOK := Lib.hid h
  clear hc h
  have HS := St.nil w noF
  go_enter Tryd.func8, Tryd.ntmps8
  go_upto_region 1 with (first | ((with_reducible refine wpList_plain ?_ ?_); exact rfl; intro KK hKK; refine wp_st_box HS 31 (.tmp 0) rfl _ rfl (askC X) (rfl) (fun g1 W1 HSx => hKK _ _ ?_); clear hKK KK HS; have HS : St w noF [⟨g1, 31, askC X⟩] W1 := HSx; clear HSx))
  go_wp2_with (first | ((with_reducible refine wpList_plain ?_ ?_); exact rfl; intro KK hKK; refine wp_st_load HS 0 0 31 (.tmp 1) rfl rfl rfl (askC X) (slab_whole _) _ Tryd.underlying31 rfl (by rw [size_askC HOK.out]; exact size_ask) (hKK _ _ ?_); clear hKK KK))
  refine (C.out _).mono ?_
  rintro x w1 ⟨rfl, hb⟩
  have HSx := HS.same hb
  clear HS hb C
  go_wp2_with fail
  go_ret2
  exact ⟨rfl, HSx.below⟩
set_option maxHeartbeats 3200000 in
theorem askenc_good (X : Asq) (w : World) (h : X.Ok) (hc : mayA X = true) :
    Calls Tryd.prog 8 #[.agg (askC X)] w fun x w' => ∃ v, x = .returned (.tuple #[v, .int .i64 0]) ∧ w'.ownsRow w.heap.size 5 1 v (encA X).length (bytesV (encA X)) ∧ Below w.heap.size w w' := by
  have C := Lib.hid (fun W => amay_any X W h)
  rw [hc] at C
  have CT := Lib.hid (fun W => tokenc_good X.c X.t W h.t h.n (mayA_parts hc).1)
  have HOK := Lib.hid h
  have HL52 := Lib.hid (length_hedA (X := X) h.t)
  clear hc h
  have HS := St.nil w noF
  go_enter Tryd.func8, Tryd.ntmps8
  go_upto_region 1 with (first | ((with_reducible refine wpList_plain ?_ ?_); exact rfl; intro KK hKK; refine wp_st_box HS 31 (.tmp 0) rfl _ rfl (askC X) (rfl) (fun g1 W1 HSx => hKK _ _ ?_); clear hKK KK HS; have HS : St w noF [⟨g1, 31, askC X⟩] W1 := HSx; clear HSx))
  go_wp2_with (first | ((with_reducible refine wpList_plain ?_ ?_); exact rfl; intro KK hKK; refine wp_st_load HS 0 0 31 (.tmp 1) rfl rfl rfl (askC X) (slab_whole _) _ Tryd.underlying31 rfl (by rw [size_askC HOK.out]; exact size_ask) (hKK _ _ ?_); clear hKK KK))
  refine (C.out _).mono ?_
  rintro x w1 ⟨rfl, hb⟩
  have HSx := HS.same hb
  clear HS hb C
  have HS := HSx
  clear HSx
  go_wp2_with (first | ((with_reducible refine wpList_plain ?_ ?_); exact rfl; intro KK hKK; refine wp_st_load HS 0 1 28 (.tmp 12) rfl rfl rfl (tokCells X.c X.t) (ask_tok X) _ Tryd.underlying28 rfl (by rw [tok_size _ _ HOK.out.t]; exact size_tok) (hKK _ _ ?_); clear hKK KK))
  refine (CT.out _).mono ?_
  rintro x w2 ⟨v4, rfl, ho, hb⟩
  have hl46 : (clmB X.c ++ X.t).length = 46 := by rw [List.length_append, length_clmB, HOK.out.t]
  obtain ⟨A4, c4, rfl, _⟩ := own_slice_form ho
  have hst := own_slice ho
  have hA4 := own_nil ho
  rw [hl46] at hst hA4
  have HTS := Lib.hid hst
  have HTA : Hid (A4 = none → c4 = 0) := Lib.hid (fun h => hA4 46 c4 (by rw [h]))
  have HSx := HS.same hb
  clear HS hb CT ho hst hA4
  have HS := HSx
  clear HSx
  have c38 : w2.cell? ⟨g1, 38, none⟩ = some (.string (strB X.v)) := (HS.row 0 rfl).get (ask_38 HOK.out)
  go_wp2_with fail
  refine (pad_any X.v _).mono ?_
  rintro x w3 ⟨rfl, hb⟩
  have HSx := HS.same hb
  have HTS3 := Lib.hid (HTS.out.below hb (Nat.le_refl _))
  clear HS hb c38 HTS
  have HS := HSx
  clear HSx
  have HT := St.nil w3 noF
  go_upto_region 5 with (first | ((with_reducible refine wpList_plain ?_ ?_); exact rfl; intro KK hKK; refine wp_st_alloc HT 50 (bs (zer 4)) rfl (.agg (bs (zer 4))) (by kernel_rfl) (rfl) (fun g6 W21 HSx => hKK _ _ ?_); clear hKK KK HT; have HT : St w3 noF [⟨g6, 50, bs (zer 4)⟩] W21 := HSx; clear HSx) | ((with_reducible refine wpList_plain ?_ ?_); exact rfl; intro KK hKK; refine wp_st_store HT 0 0 50 (.tmp 6) (.tmp 19) rfl rfl rfl (.agg (bs (padN X.v))) rfl (by rw [show (Value.agg (bs (padN X.v))).cells.size = 4 from by show (bs (padN X.v)).size = 4; rw [size_bs, length_padN]]; exact size_b4) (by show 0 + (bs (padN X.v)).size ≤ (bs (zer 4)).size; rw [size_bs, size_bs, length_padN, length_zer]; decide) (one_bs _) (bs (padN X.v)) (spl_agg _ _ _ rfl (by rw [size_bs, size_bs, length_padN, length_zer])) (fun W22 HSx => hKK _ _ ?_); clear hKK KK HT; have HT : St w3 noF [⟨g6, 50, bs (padN X.v)⟩] W22 := HSx; clear HSx))
  obtain ⟨B0, hB0⟩ : ∃ B0, W22.heap.size = B0 := ⟨_, rfl⟩
  have HB0 := Lib.hid hB0
  have HR1 : Hid (∀ W, Below B0 W22 W → Row W g1 31 (askC X)) := Lib.hid (fun W hb => ((HS.row 0 rfl).call HT.below).call (by rw [hB0]; exact hb))
  have HR6 : Hid (∀ W, Below B0 W22 W → Row W g6 50 (bs (padN X.v))) := Lib.hid (fun W hb => (HT.row 0 rfl).call (by rw [hB0]; exact hb))
  have HT4 : Hid (∀ W, Below B0 W22 W → Slice W (.slice A4 46 c4) (clmB X.c ++ X.t)) := Lib.hid (fun W hb => (HTS3.out.below HT.below (Nat.le_refl _)).below hb (Nat.le_of_eq hB0))
  have HSW := Lib.hid (HS.same HT.below)
  clear HS HT HTS3
  have c0 : W22.cell? ⟨g1, 0, none⟩ = some (.int .i64 X.k) := (HR1.out _ (Below.refl _ _)).get rfl
  have hw0 : IntKind.u8.wrap X.k = bd (byteI X.k) := wrap_u8_bd X.k
  have OW := own_litq W22 [byteI X.k] (by unfold maxLen; simp)
  have HBA := Lib.hid ((Below.refl W22.heap.size W22).alloc (Nat.le_refl _) (.cells #[.int .u8 (bd (byteI X.k))] 5))
  rw [hB0] at OW HBA
  have HOW : Hid ((W22.alloc (.cells #[.int .u8 (bd (byteI X.k))] 5)).ownsRow B0 5 1 (.slice (some ⟨B0, 0, none⟩) 1 1) [byteI X.k].length (bytesV [byteI X.k])) := Lib.hid OW
  clear OW hB0
  go_upto_region 6 with fail
  rw [HB0.out]
  generalize W22.alloc (.cells #[.int .u8 (bd (byteI X.k))] 5) = W13 at *
  have HTx := Lib.hid (HT4.out _ HBA.out)
  have hTA := HTA.out
  clear c0 hw0
  go_upto_region 7 with (at_builtin; refine wpList_append_slice rfl (.tmp 24) (.tmp 25) rfl B0 _ 1 _ rfl HOW.out A4 46 c4 _ rfl HTx.out hTA (by decide) (Nat.le_trans (Nat.le_of_eq HB0.out.symm) HBA.out.size) ?_; intro v5 W14 own5 hb5; rw [← bytesV_apps] at own5; have HO5 := Lib.hid own5; have HB5 := Lib.hid (HBA.out.trans hb5); clear own5 hb5 HOW HTx HBA)
  have HP4 : Hid (Slice W14 (.slice (some ⟨g6, 0, none⟩) 4 4) (padN X.v)) := Lib.hid (by
    have := row_slice (HR6.out _ HB5.out) (c := 4) (by rw [length_padN]; decide)
    rwa [length_padN] at this)
  go_upto_region 8 with (at_builtin; refine wpList_append_slice rfl (.tmp 27) (.tmp 28) rfl B0 _ 47 _ rfl HO5.out (some ⟨g6, 0, none⟩) 4 4 _ rfl HP4.out (fun h => by cases h) (by decide) (Nat.le_trans (Nat.le_of_eq HB0.out.symm) HB5.out.size) ?_; intro v6 W15 own6 hb6; rw [← bytesV_apps] at own6; have HO6 := Lib.hid own6; have HB6 := Lib.hid (HB5.out.trans hb6); clear own6 hb6 HO5 HP4)
  have c3 : W15.cell? ⟨g1, 39, none⟩ = some (.int .i64 X.z) := (HR1.out _ HB6.out).get (ask_39 HOK.out)
  have hw0 : IntKind.u8.wrap X.z = bd (byteI X.z) := wrap_u8_bd X.z
  have HP5 : Hid (Slice (W15.alloc (.cells #[.int .u8 (bd (byteI X.z))] 5)) (.slice (some ⟨W15.heap.size, 0, none⟩) 1 1) [byteI X.z]) := Lib.hid (row_slice (Row.fresh W15 5 (bs [byteI X.z])) (c := 1) (Nat.le_refl _))
  have HO7 := Lib.hid (HO6.out.alloc (.cells #[.int .u8 (bd (byteI X.z))] 5))
  have HB7 := Lib.hid (HB6.out.alloc (Nat.le_trans (Nat.le_of_eq HB0.out.symm) HB6.out.size) (.cells #[.int .u8 (bd (byteI X.z))] 5))
  clear HO6 HB5
  go_upto_region 9 with (at_builtin; refine wpList_append_slice rfl (.tmp 30) (.tmp 34) rfl B0 _ 51 _ rfl HO7.out (some ⟨W15.heap.size, 0, none⟩) 1 1 _ rfl HP5.out (fun h => by cases h) (by decide) (Nat.le_trans (Nat.le_of_eq HB0.out.symm) HB7.out.size) ?_; intro v7 W16 own7 hb7; rw [← bytesV_apps] at own7; have HO8 := Lib.hid own7; have HB8 := Lib.hid (HB7.out.trans hb7); clear own7 hb7 HP5 HO7 HB7 HB6 c3 hw0)
  have HO9 : Hid (W16.ownsRow B0 5 1 v7 52 (bytesV (hedA X))) := Lib.hid HO8.out
  clear HO8
  have c0 : W16.cell? ⟨g1, 0, none⟩ = some (.int .i64 X.k) := (HR1.out _ HB8.out).get rfl
  obtain ⟨k, hk⟩ : ∃ k, X.k = k := ⟨_, rfl⟩
  rw [hk] at c0
  have HK := Lib.hid hk
  clear hk
  by_cases h2 : k = 2
  · have HENC : Hid (encA X = (hedA X ++ X.d) ++ two (crcOf (hedA X ++ X.d))) := Lib.hid (by unfold encA bodA; rw [if_pos (by rw [HK.out, h2])])
    have HL84 : Hid ((hedA X ++ X.d).length = 84) := Lib.hid (by rw [List.length_append, HL52.out, HOK.out.d])
    subst h2
    have HDS : Hid (Slice W16 (.slice (some ⟨g1, 40, none⟩) 32 32) X.d) := Lib.hid (ask_slice HOK.out (HR1.out _ HB8.out))
    go_upto_region 10 with fail
    clear c0
    go_upto_region 11 with (at_builtin; refine wpList_append_slice rfl (.tmp 39) (.tmp 41) rfl B0 _ 52 _ rfl HO9.out (some ⟨g1, 40, none⟩) 32 32 _ rfl HDS.out (fun h => by cases h) (by decide) (Nat.le_trans (Nat.le_of_eq HB0.out.symm) HB8.out.size) ?_; intro v8 WX own8 hb8; rw [← bytesV_apps] at own8; obtain ⟨A5, c5, rfl, _⟩ := own_slice_form own8; have HOx := Lib.hid own8; have HBx := Lib.hid (HB8.out.trans hb8); clear own8 hb8 HO9 HB8 HDS)
    have hs5 := own_slice (q := hedA X ++ X.d) (by rw [HL84.out]; exact HOx.out)
    have HB6 := Lib.hid (HBx.out.alloc (Nat.le_trans (Nat.le_of_eq HB0.out.symm) HBx.out.size) (.cells #[.slice A5 84 c5] 32))
    have HO6 := Lib.hid (HOx.out.alloc (.cells #[.slice A5 84 c5] 32))
    have CK := check_any [hedA X ++ X.d] _ _ (parts1 hs5) (by simp [maxLen]) (by rw [List.forall_mem_singleton, HL84.out]; decide)
    rw [List.flatten_cons, List.flatten_nil, List.append_nil] at CK
    obtain ⟨K, hK⟩ : ∃ K, crcOf (hedA X ++ X.d) = K := ⟨_, rfl⟩
    rw [hK] at CK
    obtain ⟨w6, hw6⟩ : ∃ w6, WX.alloc (.cells #[.slice A5 84 c5] 32) = w6 := ⟨_, rfl⟩
    rw [hw6] at HB6 HO6 CK
    have CS := appshort_any B0 (hedA X ++ X.d) K _ w6 (by rw [HL84.out]; exact HO6.out) (Nat.le_trans (Nat.le_of_eq HB0.out.symm) HB6.out.size) (by rw [HL84.out]; decide)
    have HKZ : Hid (hedA X ++ X.d ++ two K = encA X) := Lib.hid (by rw [← hK, ← HENC.out])
    clear hs5 hK HOx
    have HW6 := Lib.hid hw6
    clear hw6
    go_wp2_with fail
    rw [HW6.out]
    refine CK.mono ?_
    rintro x w7 ⟨rfl, rfl⟩
    clear CK
    go_wp2_with fail
    refine CS.mono ?_
    rintro x w8 ⟨v8, rfl, h8, b8⟩
    rw [HKZ.out, HL84.out] at h8
    have HO8 := Lib.hid h8
    have HB8 := Lib.hid (HB6.out.trans b8)
    clear CS h8 b8
    go_wp2_with fail
    go_ret2
    have hz : w.heap.size ≤ B0 := by rw [← HB0.out]; exact HSW.out.below.size
    have hle : (encA X).length = 84 + 2 := by rw [← HKZ.out, List.length_append, HL84.out]; rfl
    exact ⟨_, rfl, by rw [hle]; exact own_base HO8.out hz, HSW.out.below.trans (HB8.out.mono hz)⟩
  · have HENC : Hid (encA X = hedA X ++ two (crcOf (hedA X))) := Lib.hid (by unfold encA bodA; rw [if_neg (by rw [HK.out]; exact h2), List.append_nil])
    have e2 : (k == 2) = false := beq_eq_false_iff_ne.2 h2
    obtain ⟨A5, c5, rfl, _⟩ := own_slice_form HO9.out
    obtain ⟨WX, hWX⟩ : ∃ WX, WX = W16 := ⟨_, rfl⟩
    subst hWX
    have HOx := HO9
    have HBx := HB8
    go_upto_region 11 with fail
    clear c0 e2 h2 HO9
    have hs5 := own_slice (q := hedA X) (by rw [HL52.out]; exact HOx.out)
    have HB6 := Lib.hid (HBx.out.alloc (Nat.le_trans (Nat.le_of_eq HB0.out.symm) HBx.out.size) (.cells #[.slice A5 52 c5] 32))
    have HO6 := Lib.hid (HOx.out.alloc (.cells #[.slice A5 52 c5] 32))
    have CK := check_any [hedA X] _ _ (parts1 hs5) (by simp [maxLen]) (by rw [List.forall_mem_singleton, HL52.out]; decide)
    rw [List.flatten_cons, List.flatten_nil, List.append_nil] at CK
    obtain ⟨K, hK⟩ : ∃ K, crcOf (hedA X) = K := ⟨_, rfl⟩
    rw [hK] at CK
    obtain ⟨w6, hw6⟩ : ∃ w6, WX.alloc (.cells #[.slice A5 52 c5] 32) = w6 := ⟨_, rfl⟩
    rw [hw6] at HB6 HO6 CK
    have CS := appshort_any B0 (hedA X) K _ w6 (by rw [HL52.out]; exact HO6.out) (Nat.le_trans (Nat.le_of_eq HB0.out.symm) HB6.out.size) (by rw [HL52.out]; decide)
    have HKZ : Hid (hedA X ++ two K = encA X) := Lib.hid (by rw [← hK, ← HENC.out])
    clear hs5 hK HOx
    have HW6 := Lib.hid hw6
    clear hw6
    go_wp2_with fail
    rw [HW6.out]
    refine CK.mono ?_
    rintro x w7 ⟨rfl, rfl⟩
    clear CK
    go_wp2_with fail
    refine CS.mono ?_
    rintro x w8 ⟨v8, rfl, h8, b8⟩
    rw [HKZ.out, HL52.out] at h8
    have HO8 := Lib.hid h8
    have HB8 := Lib.hid (HB6.out.trans b8)
    clear CS h8 b8
    go_wp2_with fail
    go_ret2
    have hz : w.heap.size ≤ B0 := by rw [← HB0.out]; exact HSW.out.below.size
    have hle : (encA X).length = 52 + 2 := by rw [← HKZ.out, List.length_append, HL52.out]; rfl
    exact ⟨_, rfl, by rw [hle]; exact own_base HO8.out hz, HSW.out.below.trans (HB8.out.mono hz)⟩
end Go.Proofs.YtobklbfcnbmnmaaDoor

/- A request's cells: of zeros, with a part stored. -/
set_option maxRecDepth 4000
namespace Go.Proofs.YtobklbfcnbmnmaaDoor
open Go Go.RowKit
def askLit (k z : Int) : Array Value := (Value.int .i64 k :: .int .i64 0 :: .string ⟨#[]⟩ :: .int .i64 0 :: .int .u32 0 :: .int .u32 0 :: (bytesV (zer 32) ++ (.string ⟨#[]⟩ :: .int .i64 z :: bytesV (zer 32)))).toArray
theorem askLit_eq (k z : Int) : askLit k z = askC ⟨k, clm0, zer 32, [], z, zer 32⟩ := by
  unfold askLit askC askL clmCells clm0
  rw [str_lit0]
  rfl
theorem zero_lit : (Tryd.prog.info? 31).bind (·.zero) = some (Value.agg (askLit 0 0)) := by kernel_rfl
theorem zero_ask : (Tryd.prog.info? 31).bind (·.zero) = some (Value.agg (askC ask0)) := by
  have h := zero_lit
  rw [askLit_eq] at h
  exact h
theorem ok_zero (k z : Int) : Asq.Ok ⟨k, clm0, zer 32, [], z, zer 32⟩ := ⟨length_zer 32, length_zer 32, by unfold clm0 maxLen; simp, by unfold maxLen; simp⟩
theorem spl_mid {α : Type} (p m m' s : List α) (h : m.length = m'.length) (n : Nat) (hn : p.length = n) : spl (p ++ (m ++ s)) n m' = p ++ (m' ++ s) := by
  subst hn
  unfold spl
  rw [List.take_left, ← h, ← List.drop_drop, List.drop_left, List.drop_left, List.append_assoc]
theorem spl_ask_tok (X : Asq) (c : Clm) (t : List (BitVec 8)) (h : X.t.length = 32) (ht : t.length = 32) : (spl (askC X).toList 1 (tokCells c t).toList).toArray = askC ⟨X.k, c, t, X.v, X.z, X.d⟩ := by
  unfold askC askL
  congr 1
  have h5 : (clmCells X.c).toList.length = 5 := rfl
  have h5' : (clmCells c).toList.length = 5 := rfl
  have e : (tokCells c t).toList = (clmCells c).toList ++ bytesV t := by unfold tokCells; rw [Array.toList_append, bs_toList]
  rw [e]
  have := spl_mid [Value.int .i64 X.k] ((clmCells X.c).toList ++ bytesV X.t) ((clmCells c).toList ++ bytesV t) (.string (strB X.v) :: .int .i64 X.z :: bytesV X.d) (by rw [List.length_append, List.length_append, len_bytesV, len_bytesV, h, ht, h5, h5']) 1 rfl
  simp only [List.append_assoc, List.cons_append, List.nil_append] at this ⊢
  exact this
theorem spl_ask_dat (X : Asq) (d : List (BitVec 8)) (h : X.Ok) (hd : d.length = 32) : (spl (askC X).toList 40 (bs d).toList).toArray = askC ⟨X.k, X.c, X.t, X.v, X.z, d⟩ := by
  unfold askC askL
  congr 1
  have h5 : (clmCells X.c).toList.length = 5 := rfl
  rw [bs_toList]
  have := spl_mid (Value.int .i64 X.k :: ((clmCells X.c).toList ++ (bytesV X.t ++ [.string (strB X.v), .int .i64 X.z]))) (bytesV X.d) (bytesV d) [] (by rw [len_bytesV, len_bytesV, h.d, hd]) 40 (by simp only [List.length_cons, List.length_append, len_bytesV, h.t, h5, List.length_nil])
  simp only [List.append_assoc, List.cons_append, List.nil_append, List.append_nil] at this ⊢
  exact this
theorem put_ask_name (X : Asq) (v : List (BitVec 8)) (h : X.t.length = 32) : (askC X).setIfInBounds 38 (.string (strB v)) = askC ⟨X.k, X.c, X.t, v, X.z, X.d⟩ := by
  unfold askC askL
  have h5 : (clmCells X.c).toList.length = 5 := rfl
  rw [List.setIfInBounds_toArray]
  congr 1
  rw [set_eq_spl _ _ _ (by simp only [List.length_cons, List.length_append, len_bytesV, h, h5]; omega)]
  have := spl_mid (Value.int .i64 X.k :: ((clmCells X.c).toList ++ bytesV X.t)) [.string (strB X.v)] [.string (strB v)] (.int .i64 X.z :: bytesV X.d) rfl 38 (by simp only [List.length_cons, List.length_append, len_bytesV, h, h5])
  simp only [List.append_assoc, List.cons_append, List.nil_append] at this ⊢
  exact this
theorem one_ask (X : Asq) : (Value.agg (askC X)).cells.all (·.oneCell') = true := by
  show (askC X).all (·.oneCell') = true
  unfold askC askL
  rw [Array.all_eq_true_iff_forall_mem]
  intro x hx
  simp only [List.mem_toArray, List.mem_cons, List.mem_append] at hx
  rcases hx with rfl | hx | hx | rfl | rfl | hx
  · rfl
  · unfold clmCells at hx
    simp at hx
    rcases hx with rfl | rfl | rfl | rfl | rfl <;> rfl
  · exact one_bytesV _ x hx
  · rfl
  · rfl
  · exact one_bytesV _ x hx
end Go.Proofs.YtobklbfcnbmnmaaDoor

/- The example of token's statements. -/
set_option maxRecDepth 4000
namespace Go.Proofs.YtobklbfcnbmnmaaDoor
open Go Go.RowKit
def exC : Clm := ⟨2, [97#8, 98#8], 3, 258#32, 4#32⟩
def exG : List (BitVec 8) := zer 31 ++ [9#8]
theorem ex_0 : clm0.n.length ≤ maxLen := by unfold maxLen clm0; simp
theorem ex_1 : mayC clm0 = false := by decide +kernel
theorem ex_2 : mayC exC = true := by decide +kernel
theorem ex_3 : exG.length = 32 := by decide +kernel
theorem ex_4 : exC.n.length ≤ maxLen := by unfold maxLen exC; simp
theorem ex_len : (clmB exC ++ exG).length = 46 := by decide +kernel
theorem ex_get : (clmB exC ++ exG).getD 0 0#8 = 2#8 ∧ (clmB exC ++ exG).getD 1 0#8 = 97#8 ∧ (clmB exC ++ exG).getD 5 0#8 = 3#8 ∧ (clmB exC ++ exG).getD 6 0#8 = 2#8 ∧ (clmB exC ++ exG).getD 7 0#8 = 1#8 ∧ (clmB exC ++ exG).getD 10 0#8 = 4#8 ∧ (clmB exC ++ exG).getD 45 0#8 = 9#8 := by decide +kernel
theorem ex_lit : (#[.int .i64 2, .string ⟨#[97, 98]⟩, .int .i64 3, .int .u32 258, .int .u32 4] : Array Value) = clmCells exC := by
  unfold clmCells exC
  rw [show (⟨#[97, 98]⟩ : ByteArray) = strB [97#8, 98#8] by rw [strB_eq]; rfl]
  rfl
theorem spl_clm (c c' : Clm) (t : List (BitVec 8)) : (spl (tokCells c t).toList 0 (Value.agg (clmCells c')).cells.toList).toArray = tokCells c' t := by
  show (spl (clmCells c ++ bs t).toList 0 (clmCells c').toList).toArray = clmCells c' ++ bs t
  unfold spl
  rw [List.take_zero, List.nil_append, Nat.zero_add, Array.toList_append]
  have h5 : (clmCells c').toList.length = (clmCells c).toList.length := rfl
  rw [h5, List.drop_left]
  simp
theorem put_tag (c : Clm) : (tokCells c (zer 32)).setIfInBounds 36 (.int .u8 9) = tokCells c exG := by
  unfold tokCells
  apply Array.ext'
  rw [Array.toList_setIfInBounds, Array.toList_append, Array.toList_append, List.set_append_right _ _ (by show 5 ≤ 36; decide)]
  rfl
attribute [local go_sem high] eql_tok
theorem dec_len {q : List (BitVec 8)} (h : ¬ q.length = 46) : decC q = clm0 ∧ decG q = zer 32 ∧ decT q = 11 := by
  have ht : tokOk q = false := by unfold tokOk; rw [decide_eq_false h, Bool.false_and, Bool.false_and]
  unfold decC decG decT
  rw [ht]; exact ⟨rfl, rfl, rfl⟩
theorem dec_tok {c : Clm} {t : List (BitVec 8)} (h : mayC c = true) (ht : t.length = 32) : decC (clmB c ++ t) = c ∧ decG (clmB c ++ t) = t ∧ decT (clmB c ++ t) = 0 := by
  obtain ⟨h1, h2, h3⟩ := tok_back h ht
  unfold decC decG decT
  rw [h1, if_pos rfl, if_pos rfl, if_pos rfl]
  exact ⟨h2, h3, rfl⟩
theorem built_tok0 : Tryd.prog.built 28 [] = some (tokCells clm0 (zer 32)) := by
  have h := tok0_eq
  unfold tok0V at h
  injection h with h
  have k : Tryd.prog.built 28 [] = some (#[.int .i64 0, .string ⟨#[]⟩, .int .i64 0, .int .u32 0, .int .u32 0] ++ bs (zer 32)) := by kernel_rfl
  rw [k, h]
theorem tok_get (c : Clm) (t : List (BitVec 8)) {k : Nat} {v : Value} (h : (clmCells c)[k]? = some v) : (tokCells c t)[k]? = some v := by
  unfold tokCells
  rw [Array.getElem?_append_left (Array.getElem?_eq_some_iff.1 h).1]; exact h
theorem wplG_build0 {P : Program} {ops : Array Oper} {rest : List Oper} {dst : Option Tmp} {type : TypeId} {pos : String} {after : Array Edge} {gd : Option (Nat × Bool)} {a : Act} {w : World} {Q : Exit → Act → World → Prop} (t : TypeId) (cs : Array Value)
    (hw : Region.wanted { dst := dst, op := .build t #[], type := type, pos := pos, after := after, guard := gd } (yielded ops a.tmps) = true) (hb : P.built t [] = some cs)
    (h : wpList P ops Q rest (a.put dst (.agg cs)) w) : wpList P ops Q ({ dst := dst, op := .build t #[], type := type, pos := pos, after := after, guard := gd } :: rest) a w :=
  wpList_guarded hw fun _ hK => wp_build t #[] rfl (by simp [hb]) (by simpa [hb] using hK _ _ h)
end Go.Proofs.YtobklbfcnbmnmaaDoor

/- The document's token: a claim's bytes, a token's. -/
set_option maxRecDepth 4000
namespace Go.Proofs.YtobklbfcnbmnmaaDoor
open Go Go.RowKit
attribute [local go_sem] strB_size
theorem clmB_eqL (c : Clm) : clmB c = [byteI c.p] ++ padN c.n ++ [byteI c.r] ++ le c.u 4 ++ le c.g 4 := by unfold clmB; simp
set_option maxHeartbeats 1600000 in
theorem rclaim_bad (c : Clm) (w : World) (hm : c.n.length ≤ maxLen) (hc : mayC c = false) : Calls Tryd.prog 30 #[.agg (clmCells c)] w fun e w' => e = .returned (.tuple #[.slice none 0 0, .int .i64 11]) ∧ Below w.heap.size w w' := by
  have HG : Hid (∀ W : World, Calls Tryd.prog 20 #[.slice (some ⟨W.heap.size, 0, none⟩) 1 1] (W.alloc (.cells #[.string (strB c.n)] 9)) fun e w' => e = .returned (.bool (goodN c.n)) ∧ Below W.heap.size W w') := Lib.hid fun W => by
    refine (refgoodn_any [c.n] _ _ (strs1 W c.n hm 9) (by unfold maxLen; simp)).mono ?_
    rintro e w' ⟨rfl, rfl⟩
    exact ⟨by unfold goodNs; simp, (Below.refl W.heap.size W).alloc (Nat.le_refl _) _⟩
  have HTRUE := Lib.hid (@may_true c)
  have HS := St.nil w noF
  clear hm
  go_enter Tryd.func30, Tryd.ntmps30
  go_upto_region 1 with (first | ((with_reducible refine wpList_plain ?_ ?_); exact rfl; intro KK hKK; refine wp_st_box HS 24 (.tmp 0) rfl _ rfl (clmCells c) (rfl) (fun g1 W1 HSx => hKK _ _ ?_); clear hKK KK HS; have HS : St w noF [⟨g1, 24, clmCells c⟩] W1 := HSx; clear HSx))
  have c0 : W1.cell? ⟨g1, 0, none⟩ = some (.int .i64 c.p) := (HS.row 0 rfl).get rfl
  have c1 : W1.cell? ⟨g1, 1, none⟩ = some (.string (strB c.n)) := (HS.row 0 rfl).get rfl
  have c2 : W1.cell? ⟨g1, 2, none⟩ = some (.int .i64 c.r) := (HS.row 0 rfl).get rfl
  obtain ⟨p, hp⟩ : ∃ p, c.p = p := ⟨_, rfl⟩
  obtain ⟨r, hr⟩ : ∃ r, c.r = r := ⟨_, rfl⟩
  obtain ⟨q, hq⟩ : ∃ q, c.n = q := ⟨_, rfl⟩
  rw [hp] at c0 HTRUE
  rw [hr] at c2 HTRUE
  rw [hq] at c1 HG HTRUE
  have HBW := Lib.hid HS.below
  have HLT : Hid (g1 < W1.heap.size) := Lib.hid (HS.row 0 rfl).lt
  have HNO : Hid (¬ (0 ≤ p ∧ p < 4 ∧ (q = [] ∨ goodN q = true) ∧ 1 ≤ r ∧ r ≤ 3)) := Lib.hid fun h => by
    have := HTRUE.out h.1 h.2.1 h.2.2.1 h.2.2.2.1 h.2.2.2.2
    rw [hc] at this; cases this
  clear hp hr hq HS hc HTRUE
  by_cases h0 : p < 0
  · have d0 : decide (p < 0) = true := decide_eq_true h0
    go_wp2_with fail
    go_ret2
    exact ⟨rfl, HBW.out⟩
  have d0 : decide (p < 0) = false := decide_eq_false h0
  by_cases h1 : 3 < p
  · have d1 : decide (3 < p) = true := decide_eq_true h1
    go_wp2_with fail
    go_ret2
    exact ⟨rfl, HBW.out⟩
  have d1 : decide (3 < p) = false := decide_eq_false h1
  by_cases hn : q = []
  · subst hn
    clear HG
    have q0 : ((strB []).toList == (⟨#[]⟩ : ByteArray).toList) = true := by rw [str_beq0]; rfl
    have q1 : (strB []).toList.isEmpty = true := by rw [str_emp]; rfl
    have q2 : (strB []).toList = [] := by rw [str_nil]
    by_cases h2 : r < 1
    · have d2 : decide (r < 1) = true := decide_eq_true h2
      go_wp2_with fail
      go_ret2
      exact ⟨rfl, HBW.out⟩
    have d2 : decide (r < 1) = false := decide_eq_false h2
    have h3 : 3 < r := by have := HNO.out; apply Decidable.byContradiction; intro h; exact this ⟨by omega, by omega, .inl rfl, by omega, by omega⟩
    have d3 : decide (3 < r) = true := decide_eq_true h3
    go_wp2_with fail
    go_ret2
    exact ⟨rfl, HBW.out⟩
  · have q0 : ((strB q).toList == (⟨#[]⟩ : ByteArray).toList) = false := by rw [str_beq0, decide_eq_false hn]
    have q1 : (strB q).toList.isEmpty = false := by rw [str_emp, decide_eq_false hn]
    have q2 : ¬ (strB q).toList = [] := by rw [str_nil]; exact hn
    cases hg : goodN q with
    | false =>
      rw [hg] at HG
      go_wp2_with fail
      refine (HG.out _).mono ?_
      rintro e w1 ⟨rfl, hb⟩
      go_wp2_with fail
      go_ret2
      exact ⟨rfl, HBW.out.trans (hb.mono HBW.out.size)⟩
    | true =>
      rw [hg] at HG
      have HGG := Lib.hid hg
      clear hg
      have h23 : r < 1 ∨ 3 < r := by have := HNO.out; apply Decidable.byContradiction; intro h; exact this ⟨by omega, by omega, .inr HGG.out, by omega, by omega⟩
      by_cases h2 : r < 1
      · have d2 : decide (r < 1) = true := decide_eq_true h2
        go_wp2_with fail
        refine (HG.out _).mono ?_
        rintro e w1 ⟨rfl, hb⟩
        have c2' : w1.cell? ⟨g1, 2, none⟩ = some (.int .i64 r) := (hb.cell (p := ⟨g1, 2, none⟩) (HLT.out)).trans c2
        have HB1 := Lib.hid (HBW.out.trans (hb.mono HBW.out.size))
        clear hb
        go_wp2_with fail
        go_ret2
        exact ⟨rfl, HB1.out⟩
      have d2 : decide (r < 1) = false := decide_eq_false h2
      have d3 : decide (3 < r) = true := decide_eq_true (by omega)
      go_wp2_with fail
      refine (HG.out _).mono ?_
      rintro e w1 ⟨rfl, hb⟩
      have c2' : w1.cell? ⟨g1, 2, none⟩ = some (.int .i64 r) := (hb.cell (p := ⟨g1, 2, none⟩) (HLT.out)).trans c2
      have HB1 := Lib.hid (HBW.out.trans (hb.mono HBW.out.size))
      clear hb
      go_wp2_with fail
      go_ret2
      exact ⟨rfl, HB1.out⟩
set_option maxRecDepth 20000 in
set_option maxHeartbeats 1600000 in
theorem rclaim_good (c : Clm) (w : World) (hm : c.n.length ≤ maxLen) (hc : mayC c = true) : Calls Tryd.prog 30 #[.agg (clmCells c)] w fun e w' => ∃ v, e = .returned (.tuple #[v, .int .i64 0]) ∧ w'.ownsRow w.heap.size 5 1 v (clmB c).length (bytesV (clmB c)) ∧ Below w.heap.size w w' := by
  have HG : Hid (∀ W : World, Calls Tryd.prog 20 #[.slice (some ⟨W.heap.size, 0, none⟩) 1 1] (W.alloc (.cells #[.string (strB c.n)] 9)) fun e w' => e = .returned (.bool (goodN c.n)) ∧ Below W.heap.size W w') := Lib.hid fun W => by
    refine (refgoodn_any [c.n] _ _ (strs1 W c.n hm 9) (by unfold maxLen; simp)).mono ?_
    rintro e w' ⟨rfl, rfl⟩
    exact ⟨by unfold goodNs; simp, (Below.refl W.heap.size W).alloc (Nat.le_refl _) _⟩
  have HM := Lib.hid hm
  have HEQ := Lib.hid (clmB_eqL c)
  have HCL := Lib.hid (length_clmB c)
  obtain ⟨j1, j2, j3, j4, j5⟩ := may_parts hc
  have d0 : decide (c.p < 0) = false := decide_eq_false (by omega)
  have d1 : decide (3 < c.p) = false := decide_eq_false (by omega)
  have d2 : decide (c.r < 1) = false := decide_eq_false (by omega)
  have d3 : decide (3 < c.r) = false := decide_eq_false (by omega)
  have d0' : ¬ c.p < 0 := by omega
  have d1' : ¬ 3 < c.p := by omega
  have d2' : ¬ c.r < 1 := by omega
  have d3' : ¬ 3 < c.r := by omega
  have HS := St.nil w noF
  clear hm hc j1 j2 j4 j5
  rcases j3 with hn | hg
  · have q0 : ((strB c.n).toList == (⟨#[]⟩ : ByteArray).toList) = true := by rw [str_beq0, hn]; rfl
    have q1 : (strB c.n).toList.isEmpty = true := by rw [str_emp, hn]; rfl
    have q2 : (strB c.n).toList = [] := by rw [str_nil]; exact hn
    clear HG hn
    go_enter Tryd.func30, Tryd.ntmps30
    go_upto_region 1 with (first | ((with_reducible refine wpList_plain ?_ ?_); exact rfl; intro KK hKK; refine wp_st_box HS 24 (.tmp 0) rfl _ rfl (clmCells c) (rfl) (fun g1 W1 HSx => hKK _ _ ?_); clear hKK KK HS; have HS : St w noF [⟨g1, 24, clmCells c⟩] W1 := HSx; clear HSx))
    have c0 : W1.cell? ⟨g1, 0, none⟩ = some (.int .i64 c.p) := (HS.row 0 rfl).get rfl
    have c1 : W1.cell? ⟨g1, 1, none⟩ = some (.string (strB c.n)) := (HS.row 0 rfl).get rfl
    have c2 : W1.cell? ⟨g1, 2, none⟩ = some (.int .i64 c.r) := (HS.row 0 rfl).get rfl
    go_wp2_with fail
    refine (refpad_any c.n _ HM.out).mono ?_
    rintro e w2 ⟨rfl, hb⟩
    have HSx := HS.same hb
    clear HS hb d0 d1 d2 d3 d0' d1' d2' d3' q0 q1 q2
    have HS := HSx
    clear HSx
    go_upto_region 4 with (first | ((with_reducible refine wpList_plain ?_ ?_); exact rfl; intro KK hKK; refine wp_st_alloc HS 50 (bs (zer 4)) rfl (.agg (bs (zer 4))) (by kernel_rfl) (rfl) (fun g4 W11 HSx => hKK _ _ ?_); clear hKK KK HS; have HS : St w noF [⟨g1, 24, clmCells c⟩, ⟨g4, 50, bs (zer 4)⟩] W11 := HSx; clear HSx) | ((with_reducible refine wpList_plain ?_ ?_); exact rfl; intro KK hKK; refine wp_st_store HS 1 0 50 (.tmp 4) (.tmp 38) rfl rfl rfl (.agg (bs (padN c.n))) rfl (by rw [show Value.cells (.agg (bs (padN c.n))) = bs (padN c.n) from rfl, size_bs, length_padN]; exact size_b4) (by rw [show Value.cells (.agg (bs (padN c.n))) = bs (padN c.n) from rfl, size_bs, length_padN, size_bs, length_zer]; decide) (by exact one_bs _) (bs (padN c.n)) (spl_agg _ _ _ rfl (by rw [size_bs, size_bs, length_padN, length_zer])) (fun W12 HSx => hKK _ _ ?_); clear hKK KK HS; have HS : St w noF [⟨g1, 24, clmCells c⟩, ⟨g4, 50, bs (padN c.n)⟩] W12 := HSx; clear HSx))
    obtain ⟨B0, hB0⟩ : ∃ B0, W12.heap.size = B0 := ⟨_, rfl⟩
    have HB0 := Lib.hid hB0
    have HSW := Lib.hid HS
    have hF0 : Wl [fun W => Below B0 W12 W, fun W => Below B0 W12 W] 0 W12.drew := (Below.refl B0 _).drew
    clear HS hB0
    refine wp_region_phs [is (.pointer (some ⟨g1, 0, none⟩)), is (.int .i64 c.p), is (.int .u8 (bd (byteI c.p))), (fun v W => W.ownsRow B0 5 1 v 1 (bytesV ([byteI c.p]))), is (.slice (some ⟨g4, 0, none⟩) 4 4), (fun v W => W.ownsRow B0 5 1 v 5 (bytesV ([byteI c.p] ++ padN c.n))), (fun v W => W.ownsRow B0 5 1 v 5 (bytesV ([byteI c.p] ++ padN c.n)))] [true, true, true, false, true, false, false] [(fun W => Below B0 W12 W), (fun W => Below B0 W12 W)] [false, false, false, false, false, true, false] [some 0, some 0, some 0, some 0, some 0, some 0, some 1] [some 39, some 40, some 41, some 42, some 43, some 44, some 5] 7 1 (fun _ => true) rfl rfl (by kernel_rfl) (by kernel_rfl) (by kernel_rfl) (by kernel_rfl) ?_ ?_ ?_ ?_ ?_ ?_
    · repeat first | exact wok_nil | refine wok_cons (by first | exact fun _ _ h k => h.trans (k.mono (Nat.le_trans (Nat.le_of_eq HB0.out.symm) h.size))) ?_
    · repeat first | exact vok_nil | refine vok_rig (by first | exact fun _ _ _ h => h) ?_ | refine vok_soft (by first | exact fun _ _ _ h _ => h | exact fun _ _ _ h k => owns_call h k) ?_
    · exact hF0
    · repeat first | exact all_end (by decide) | refine all_cons (by first | exact rfl | exact ⟨rfl, fun _ _ h => Or.inl h⟩ | exact ⟨rfl, fun _ _ h => Or.inr ⟨h, rfl⟩⟩) ?_
    · refine allp_mild 0 rfl rfl rfl (fun a x W hout hin hP => ?_) ?_
      · have e1 : a.tmps[1]? = some (.pointer (some ⟨g1, 0, none⟩)) := (hout 1 (by kernel_rfl)).trans rfl
        clear hin hout
        intro K Q hK
        go_simp
        exact hK _ _ ⟨Same.refl _, rfl⟩
      refine allp_mild 0 rfl rfl rfl (fun a x W hout hin hP => ?_) ?_
      · have e39 := hin.is 0 39 (by kernel_rfl) (by decide) (by kernel_rfl) (by kernel_rfl) _ rfl
        have hc : W.cell? ⟨g1, 0, none⟩ = some (.int .i64 c.p) := ((HSW.out.same (by rw [HB0.out]; exact hP)).row 0 rfl).get rfl
        clear hP
        clear hin hout
        intro K Q hK
        go_simp
        exact hK _ _ ⟨Same.refl _, rfl⟩
      refine allp_mild 0 rfl rfl rfl (fun a x W hout hin hP => ?_) ?_
      · have e40 := hin.is 1 40 (by kernel_rfl) (by decide) (by kernel_rfl) (by kernel_rfl) _ rfl
        have hw : IntKind.u8.wrap c.p = bd (byteI c.p) := wrap_u8_bd c.p
        clear hin hout
        intro K Q hK
        go_simp
        exact hK _ _ ⟨Same.refl _, rfl⟩
      refine allp_mild 0 rfl rfl rfl (fun a x W hout hin hP => ?_) ?_
      · have e41 := hin.is 2 41 (by kernel_rfl) (by decide) (by kernel_rfl) (by kernel_rfl) _ rfl
        have hlt := Nat.le_trans (Nat.le_of_eq HB0.out.symm) hP.size
        have ho := own_base (own_litq W [byteI c.p] (by unfold maxLen; simp)) hlt
        clear hP
        clear hin hout
        intro K Q hK
        go_simp
        exact hK _ _ ⟨Same.alloc _ _, ho⟩
      refine allp_mild 0 rfl rfl rfl (fun a x W hout hin hP => ?_) ?_
      · have e4 : a.tmps[4]? = some (.pointer (some ⟨g4, 0, none⟩)) := (hout 4 (by kernel_rfl)).trans rfl
        clear hin hout
        intro K Q hK
        go_simp
        exact hK _ _ ⟨Same.refl _, rfl⟩
      refine allp_wild 0 rfl rfl rfl (fun a x W hout hin hP => ?_) ?_
      · obtain ⟨v42, e42, hv42⟩ := hin.get 3 42 (by kernel_rfl) (by decide) (by kernel_rfl) (.inr ⟨rfl, by kernel_rfl⟩)
        have e43 := hin.is 4 43 (by kernel_rfl) (by decide) (by kernel_rfl) (by kernel_rfl) _ rfl
        have hO8 := hv42
        have hlt := Nat.le_trans (Nat.le_of_eq HB0.out.symm) hP.size
        have hS5 : Slice W (.slice (some ⟨g4, 0, none⟩) 4 4) (padN c.n) := by
          have := row_slice ((HSW.out.same (by rw [HB0.out]; exact hP)).row 1 rfl) (c := 4) (by rw [length_padN]; decide)
          rwa [length_padN] at this
        clear hin hout
        intro K Q hK
        refine wp_append_slice (.tmp 42) (.tmp 43) rfl B0 _ 1 _ (eval_of_get e42) hO8 (some ⟨g4, 0, none⟩) 4 4 (padN c.n) (eval_of_get e43) hS5 (fun h => by cases h) (by decide) hlt ?_
        intro v' W' hO' hb'
        rw [← bytesV_apps] at hO'
        exact hK _ _ ⟨hP.trans hb', hO'⟩
      refine allp_mild 1 rfl rfl rfl (fun a x W hout hin hP => ?_) ?_
      · obtain ⟨v44, e44, hv44⟩ := hin.get 5 44 (by kernel_rfl) (by decide) (by kernel_rfl) (.inr ⟨rfl, by kernel_rfl⟩)
        exact does_assign rfl e44 ⟨Same.refl _, hv44⟩
      exact all_end (by decide)
    · intro x W hP hV
      have hO := hV 6 (by decide) (.inr (by kernel_rfl))
      obtain ⟨v5, hv5⟩ : ∃ v5, x 6 = v5 := ⟨_, rfl⟩
      have HO5 : Hid (W.ownsRow B0 5 1 v5 5 (bytesV ([byteI c.p] ++ padN c.n))) := Lib.hid (by rw [← hv5]; exact hO)
      have HB5 : Hid (Below B0 W12 W) := Lib.hid hP
      clear hV hP hO
      simp only [putL, Act.put, List.setIfInBounds_toArray, List.set_cons_succ, List.set_cons_zero, hv5]
      simp only [Nat.zero_add, Nat.reduceAdd]
      refine wpAnyH_done (by kernel_rfl) ?_ _
      clear hv5
      go_upto_region 5 with fail
      have hF0 : Wl [(fun W => Below B0 W12 W ∧ W.ownsRow B0 5 1 v5 5 (bytesV ([byteI c.p] ++ padN c.n))), (fun W => Below B0 W12 W), (fun W => Below B0 W12 W)] 0 W.drew := ⟨HB5.out.trans ((Below.refl _ _).drew.mono (Nat.le_trans (Nat.le_of_eq HB0.out.symm) HB5.out.size)), owns_call HO5.out (Below.refl _ _).drew⟩
      clear HB5 HO5
      refine wp_region_phs [is (v5), is (.pointer (some ⟨g1, 2, none⟩)), is (.int .i64 c.r), is (.int .u8 (bd (byteI c.r))), (fun v W => W.ownsRow B0 5 1 v 1 (bytesV ([byteI c.r]))), (fun v W => W.ownsRow B0 5 1 v 6 (bytesV (([byteI c.p] ++ padN c.n) ++ [byteI c.r]))), is (.pointer (some ⟨g1, 3, none⟩)), is (.int .u32 (wd c.u)), (fun v W => W.ownsRow B0 5 1 v 4 (bytesV (le c.u 4))), (fun v W => W.ownsRow B0 5 1 v 10 (bytesV (([byteI c.p] ++ padN c.n ++ [byteI c.r]) ++ le c.u 4))), (fun v W => W.ownsRow B0 5 1 v 10 (bytesV (([byteI c.p] ++ padN c.n ++ [byteI c.r]) ++ le c.u 4)))] [true, true, true, true, false, false, true, true, false, false, false] [(fun W => Below B0 W12 W ∧ W.ownsRow B0 5 1 v5 5 (bytesV ([byteI c.p] ++ padN c.n))), (fun W => Below B0 W12 W), (fun W => Below B0 W12 W)] [false, false, false, false, false, true, false, false, false, true, false] [some 0, some 0, some 0, some 0, some 0, some 0, none, none, some 1, some 1, some 2] [some 45, some 46, some 47, some 48, some 49, some 50, some 51, some 52, some 53, some 54, some 5] 11 2 (fun _ => true) rfl rfl (by kernel_rfl) (by kernel_rfl) (by kernel_rfl) (by kernel_rfl) ?_ ?_ ?_ ?_ ?_ ?_
      · repeat first | exact wok_nil | refine wok_cons (by first | exact fun _ _ h k => ⟨h.1.trans (k.mono (Nat.le_trans (Nat.le_of_eq HB0.out.symm) h.1.size)), owns_call h.2 k⟩ | exact fun _ _ h k => h.trans (k.mono (Nat.le_trans (Nat.le_of_eq HB0.out.symm) h.size))) ?_
      · repeat first | exact vok_nil | refine vok_rig (by first | exact fun _ _ _ h => h) ?_ | refine vok_soft (by first | exact fun _ _ _ h _ => h | exact fun _ _ _ h k => owns_call h k) ?_
      · exact hF0
      · repeat first | exact all_end (by decide) | refine all_cons (by first | exact rfl | exact ⟨rfl, fun _ _ h => Or.inl h⟩ | exact ⟨rfl, fun _ _ h => Or.inr ⟨h, rfl⟩⟩) ?_
      · refine allp_mild 0 rfl rfl rfl (fun a x W hout hin hP => ?_) ?_
        · have e5 : a.tmps[5]? = some (v5) := (hout 5 (by kernel_rfl)).trans rfl
          exact does_move rfl e5 ⟨Same.refl _, rfl⟩
        refine allp_mild 0 rfl rfl rfl (fun a x W hout hin hP => ?_) ?_
        · have e1 : a.tmps[1]? = some (.pointer (some ⟨g1, 0, none⟩)) := (hout 1 (by kernel_rfl)).trans rfl
          clear hin hout
          intro K Q hK
          go_simp
          exact hK _ _ ⟨Same.refl _, rfl⟩
        refine allp_mild 0 rfl rfl rfl (fun a x W hout hin hP => ?_) ?_
        · have e46 := hin.is 1 46 (by kernel_rfl) (by decide) (by kernel_rfl) (by kernel_rfl) _ rfl
          have hc : W.cell? ⟨g1, 2, none⟩ = some (.int .i64 c.r) := ((HSW.out.same (by rw [HB0.out]; exact hP.1)).row 0 rfl).get rfl
          clear hP
          clear hin hout
          intro K Q hK
          go_simp
          exact hK _ _ ⟨Same.refl _, rfl⟩
        refine allp_mild 0 rfl rfl rfl (fun a x W hout hin hP => ?_) ?_
        · have e47 := hin.is 2 47 (by kernel_rfl) (by decide) (by kernel_rfl) (by kernel_rfl) _ rfl
          have hw : IntKind.u8.wrap c.r = bd (byteI c.r) := wrap_u8_bd c.r
          clear hin hout
          intro K Q hK
          go_simp
          exact hK _ _ ⟨Same.refl _, rfl⟩
        refine allp_mild 0 rfl rfl rfl (fun a x W hout hin hP => ?_) ?_
        · have e48 := hin.is 3 48 (by kernel_rfl) (by decide) (by kernel_rfl) (by kernel_rfl) _ rfl
          have hlt := Nat.le_trans (Nat.le_of_eq HB0.out.symm) hP.1.size
          have ho := own_base (own_litq W [byteI c.r] (by unfold maxLen; simp)) hlt
          clear hP
          clear hin hout
          intro K Q hK
          go_simp
          exact hK _ _ ⟨Same.alloc _ _, ho⟩
        refine allp_wild 0 rfl rfl rfl (fun a x W hout hin hP => ?_) ?_
        · have e45 := hin.is 0 45 (by kernel_rfl) (by decide) (by kernel_rfl) (by kernel_rfl) _ rfl
          obtain ⟨v49, e49, hv49⟩ := hin.get 4 49 (by kernel_rfl) (by decide) (by kernel_rfl) (.inr ⟨rfl, by kernel_rfl⟩)
          have hO8 := hP.2
          have hlt := Nat.le_trans (Nat.le_of_eq HB0.out.symm) hP.1.size
          obtain ⟨A4, c4, rfl, hS5, hA4, _⟩ := own_item (q := [byteI c.r]) hv49 (by unfold maxLen; simp)
          clear hin hout
          intro K Q hK
          refine wp_append_slice (.tmp 45) (.tmp 49) rfl B0 _ 5 _ (eval_of_get e45) hO8 A4 1 c4 ([byteI c.r]) (eval_of_get e49) hS5 hA4 (by decide) hlt ?_
          intro v' W' hO' hb'
          rw [← bytesV_apps] at hO'
          exact hK _ _ ⟨hP.1.trans hb', hO'⟩
        refine allp_pure rfl rfl (fun a x W hout hin => ?_) ?_
        · have e1 : a.tmps[1]? = some (.pointer (some ⟨g1, 0, none⟩)) := (hout 1 (by kernel_rfl)).trans rfl
          clear hin hout
          intro K Q hK
          go_simp
          exact hK _ _ ⟨rfl, rfl⟩
        refine allp_any rfl rfl (fun a x W hout hin hP => ?_) ?_
        · have e51 := hin.is 6 51 (by kernel_rfl) (by decide) (by kernel_rfl) (by kernel_rfl) _ rfl
          have hc : W.cell? ⟨g1, 3, none⟩ = some (.int .u32 (wd c.u)) := (wl_any (S := fun W => Row W g1 24 (clmCells c)) (by intro F hF W h; simp only [List.mem_cons, List.not_mem_nil, or_false] at hF; rcases hF with rfl | rfl | rfl; exact (HSW.out.same (by rw [HB0.out]; exact h.1)).row 0 rfl; exact (HSW.out.same (by rw [HB0.out]; exact h)).row 0 rfl; exact (HSW.out.same (by rw [HB0.out]; exact h)).row 0 rfl) hP).get rfl
          clear hP
          clear hin hout
          intro K Q hK
          go_simp
          exact hK _ _ ⟨rfl, rfl⟩
        refine allp_mild 1 rfl rfl rfl (fun a x W hout hin hP => ?_) ?_
        · have e52 := hin.is 7 52 (by kernel_rfl) (by decide) (by kernel_rfl) (by kernel_rfl) _ rfl
          have hlt := Nat.le_trans (Nat.le_of_eq HB0.out.symm) hP.size
          clear hP
          clear hin hout
          intro K Q hK
          go_simp
          refine (refput_any c.u 4 W (by decide)).mono ?_
          rintro e W' ⟨u, rfl, hO, hb⟩
          exact hK _ _ ⟨hb, own_base hO hlt⟩
        refine allp_wild 1 rfl rfl rfl (fun a x W hout hin hP => ?_) ?_
        · obtain ⟨v50, e50, hv50⟩ := hin.get 5 50 (by kernel_rfl) (by decide) (by kernel_rfl) (.inr ⟨rfl, by kernel_rfl⟩)
          obtain ⟨v53, e53, hv53⟩ := hin.get 8 53 (by kernel_rfl) (by decide) (by kernel_rfl) (.inr ⟨rfl, by kernel_rfl⟩)
          have hO8 := hv50
          have hlt := Nat.le_trans (Nat.le_of_eq HB0.out.symm) hP.size
          obtain ⟨A4, c4, rfl, hS5, hA4, _⟩ := own_item (q := le c.u 4) (by rw [len_le4]; exact hv53) (by rw [len_le4]; decide)
          rw [len_le4] at e53 hS5
          clear hin hout
          intro K Q hK
          refine wp_append_slice (.tmp 50) (.tmp 53) rfl B0 _ 6 _ (eval_of_get e50) hO8 A4 4 c4 (le c.u 4) (eval_of_get e53) hS5 hA4 (by decide) hlt ?_
          intro v' W' hO' hb'
          rw [← bytesV_apps] at hO'
          exact hK _ _ ⟨hP.trans hb', hO'⟩
        refine allp_mild 2 rfl rfl rfl (fun a x W hout hin hP => ?_) ?_
        · obtain ⟨v54, e54, hv54⟩ := hin.get 9 54 (by kernel_rfl) (by decide) (by kernel_rfl) (.inr ⟨rfl, by kernel_rfl⟩)
          exact does_assign rfl e54 ⟨Same.refl _, hv54⟩
        exact all_end (by decide)
      · intro x W hP hV
        have hO := hV 10 (by decide) (.inr (by kernel_rfl))
        obtain ⟨v6, hv6⟩ : ∃ v6, x 10 = v6 := ⟨_, rfl⟩
        have HO6 : Hid (W.ownsRow B0 5 1 v6 10 (bytesV ([byteI c.p] ++ padN c.n ++ [byteI c.r] ++ le c.u 4))) := Lib.hid (by rw [← hv6]; exact hO)
        have HB6 : Hid (Below B0 W12 W) := Lib.hid hP
        clear hV hP hO
        simp only [putL, Act.put, List.setIfInBounds_toArray, List.set_cons_succ, List.set_cons_zero, hv6]
        simp only [Nat.zero_add, Nat.reduceAdd]
        refine wpAnyH_done (by kernel_rfl) ?_ _
        clear hv6
        have c4 : W.cell? ⟨g1, 4, none⟩ = some (.int .u32 (wd c.g)) := ((HSW.out.same (by rw [HB0.out]; exact HB6.out)).row 0 rfl).get rfl
        go_wp2_with fail
        refine (refput_any c.g 4 W (by decide)).mono ?_
        rintro e w7 ⟨u, rfl, hou, hb⟩
        have HB7 := Lib.hid (HB6.out.trans (hb.mono (Nat.le_trans (Nat.le_of_eq HB0.out.symm) HB6.out.size)))
        have hs7 := own_item (q := le c.g 4) (by rw [len_le4]; exact hou) (by rw [len_le4]; decide)
        have ho7 := owns_call HO6.out hb
        obtain ⟨A5, c5, rfl, hS5, hA5, _⟩ := hs7
        rw [len_le4] at hS5 ⊢
        clear hb hou c4 HO6 HB6
        go_wp2_with (at_builtin; refine wpList_append_slice rfl (.tmp 55) (.tmp 58) rfl B0 _ 10 _ rfl ho7 A5 4 c5 _ rfl hS5 hA5 (by decide) (Nat.le_trans (Nat.le_of_eq HB0.out.symm) HB7.out.size) ?_; intro v8 w8 own8 hb8; rw [← bytesV_apps] at own8; have HO8 := Lib.hid own8; have HB8 := Lib.hid (HB7.out.trans hb8); clear own8 hb8 ho7 hS5)
        go_ret2
        have hz : w.heap.size ≤ B0 := by rw [← HB0.out]; exact HSW.out.below.size
        refine ⟨_, rfl, ?_, HSW.out.below.trans (HB8.out.mono hz)⟩
        rw [HCL.out, HEQ.out]
        exact own_base HO8.out hz
  · have hn : ¬ c.n = [] := by intro e; rw [e] at hg; exact absurd hg (by decide)
    have q0 : ((strB c.n).toList == (⟨#[]⟩ : ByteArray).toList) = false := by rw [str_beq0, decide_eq_false hn]
    have q1 : (strB c.n).toList.isEmpty = false := by rw [str_emp, decide_eq_false hn]
    have q2 : ¬ (strB c.n).toList = [] := by rw [str_nil]; exact hn
    rw [hg] at HG
    clear hn hg
    go_enter Tryd.func30, Tryd.ntmps30
    go_upto_region 1 with (first | ((with_reducible refine wpList_plain ?_ ?_); exact rfl; intro KK hKK; refine wp_st_box HS 24 (.tmp 0) rfl _ rfl (clmCells c) (rfl) (fun g1 W1 HSx => hKK _ _ ?_); clear hKK KK HS; have HS : St w noF [⟨g1, 24, clmCells c⟩] W1 := HSx; clear HSx))
    have c0 : W1.cell? ⟨g1, 0, none⟩ = some (.int .i64 c.p) := (HS.row 0 rfl).get rfl
    have c1 : W1.cell? ⟨g1, 1, none⟩ = some (.string (strB c.n)) := (HS.row 0 rfl).get rfl
    have c2 : W1.cell? ⟨g1, 2, none⟩ = some (.int .i64 c.r) := (HS.row 0 rfl).get rfl
    go_wp2_with fail
    refine (HG.out _).mono ?_
    rintro e w1 ⟨rfl, hb⟩
    have HSx := HS.same hb
    clear HS hb HG c0 c1 c2
    have HS := HSx
    clear HSx
    have c1 : w1.cell? ⟨g1, 1, none⟩ = some (.string (strB c.n)) := (HS.row 0 rfl).get rfl
    have c2 : w1.cell? ⟨g1, 2, none⟩ = some (.int .i64 c.r) := (HS.row 0 rfl).get rfl
    go_wp2_with fail
    refine (refpad_any c.n _ HM.out).mono ?_
    rintro e w2 ⟨rfl, hb⟩
    have HSx := HS.same hb
    clear HS hb d0 d1 d2 d3 d0' d1' d2' d3' q0 q1 q2
    have HS := HSx
    clear HSx
    go_upto_region 4 with (first | ((with_reducible refine wpList_plain ?_ ?_); exact rfl; intro KK hKK; refine wp_st_alloc HS 50 (bs (zer 4)) rfl (.agg (bs (zer 4))) (by kernel_rfl) (rfl) (fun g4 W11 HSx => hKK _ _ ?_); clear hKK KK HS; have HS : St w noF [⟨g1, 24, clmCells c⟩, ⟨g4, 50, bs (zer 4)⟩] W11 := HSx; clear HSx) | ((with_reducible refine wpList_plain ?_ ?_); exact rfl; intro KK hKK; refine wp_st_store HS 1 0 50 (.tmp 4) (.tmp 38) rfl rfl rfl (.agg (bs (padN c.n))) rfl (by rw [show Value.cells (.agg (bs (padN c.n))) = bs (padN c.n) from rfl, size_bs, length_padN]; exact size_b4) (by rw [show Value.cells (.agg (bs (padN c.n))) = bs (padN c.n) from rfl, size_bs, length_padN, size_bs, length_zer]; decide) (by exact one_bs _) (bs (padN c.n)) (spl_agg _ _ _ rfl (by rw [size_bs, size_bs, length_padN, length_zer])) (fun W12 HSx => hKK _ _ ?_); clear hKK KK HS; have HS : St w noF [⟨g1, 24, clmCells c⟩, ⟨g4, 50, bs (padN c.n)⟩] W12 := HSx; clear HSx))
    obtain ⟨B0, hB0⟩ : ∃ B0, W12.heap.size = B0 := ⟨_, rfl⟩
    have HB0 := Lib.hid hB0
    have HSW := Lib.hid HS
    have hF0 : Wl [fun W => Below B0 W12 W, fun W => Below B0 W12 W] 0 W12.drew := (Below.refl B0 _).drew
    clear HS hB0
    refine wp_region_phs [is (.pointer (some ⟨g1, 0, none⟩)), is (.int .i64 c.p), is (.int .u8 (bd (byteI c.p))), (fun v W => W.ownsRow B0 5 1 v 1 (bytesV ([byteI c.p]))), is (.slice (some ⟨g4, 0, none⟩) 4 4), (fun v W => W.ownsRow B0 5 1 v 5 (bytesV ([byteI c.p] ++ padN c.n))), (fun v W => W.ownsRow B0 5 1 v 5 (bytesV ([byteI c.p] ++ padN c.n)))] [true, true, true, false, true, false, false] [(fun W => Below B0 W12 W), (fun W => Below B0 W12 W)] [false, false, false, false, false, true, false] [some 0, some 0, some 0, some 0, some 0, some 0, some 1] [some 39, some 40, some 41, some 42, some 43, some 44, some 5] 7 1 (fun _ => true) rfl rfl (by kernel_rfl) (by kernel_rfl) (by kernel_rfl) (by kernel_rfl) ?_ ?_ ?_ ?_ ?_ ?_
    · repeat first | exact wok_nil | refine wok_cons (by first | exact fun _ _ h k => h.trans (k.mono (Nat.le_trans (Nat.le_of_eq HB0.out.symm) h.size))) ?_
    · repeat first | exact vok_nil | refine vok_rig (by first | exact fun _ _ _ h => h) ?_ | refine vok_soft (by first | exact fun _ _ _ h _ => h | exact fun _ _ _ h k => owns_call h k) ?_
    · exact hF0
    · repeat first | exact all_end (by decide) | refine all_cons (by first | exact rfl | exact ⟨rfl, fun _ _ h => Or.inl h⟩ | exact ⟨rfl, fun _ _ h => Or.inr ⟨h, rfl⟩⟩) ?_
    · refine allp_mild 0 rfl rfl rfl (fun a x W hout hin hP => ?_) ?_
      · have e1 : a.tmps[1]? = some (.pointer (some ⟨g1, 0, none⟩)) := (hout 1 (by kernel_rfl)).trans rfl
        clear hin hout
        intro K Q hK
        go_simp
        exact hK _ _ ⟨Same.refl _, rfl⟩
      refine allp_mild 0 rfl rfl rfl (fun a x W hout hin hP => ?_) ?_
      · have e39 := hin.is 0 39 (by kernel_rfl) (by decide) (by kernel_rfl) (by kernel_rfl) _ rfl
        have hc : W.cell? ⟨g1, 0, none⟩ = some (.int .i64 c.p) := ((HSW.out.same (by rw [HB0.out]; exact hP)).row 0 rfl).get rfl
        clear hP
        clear hin hout
        intro K Q hK
        go_simp
        exact hK _ _ ⟨Same.refl _, rfl⟩
      refine allp_mild 0 rfl rfl rfl (fun a x W hout hin hP => ?_) ?_
      · have e40 := hin.is 1 40 (by kernel_rfl) (by decide) (by kernel_rfl) (by kernel_rfl) _ rfl
        have hw : IntKind.u8.wrap c.p = bd (byteI c.p) := wrap_u8_bd c.p
        clear hin hout
        intro K Q hK
        go_simp
        exact hK _ _ ⟨Same.refl _, rfl⟩
      refine allp_mild 0 rfl rfl rfl (fun a x W hout hin hP => ?_) ?_
      · have e41 := hin.is 2 41 (by kernel_rfl) (by decide) (by kernel_rfl) (by kernel_rfl) _ rfl
        have hlt := Nat.le_trans (Nat.le_of_eq HB0.out.symm) hP.size
        have ho := own_base (own_litq W [byteI c.p] (by unfold maxLen; simp)) hlt
        clear hP
        clear hin hout
        intro K Q hK
        go_simp
        exact hK _ _ ⟨Same.alloc _ _, ho⟩
      refine allp_mild 0 rfl rfl rfl (fun a x W hout hin hP => ?_) ?_
      · have e4 : a.tmps[4]? = some (.pointer (some ⟨g4, 0, none⟩)) := (hout 4 (by kernel_rfl)).trans rfl
        clear hin hout
        intro K Q hK
        go_simp
        exact hK _ _ ⟨Same.refl _, rfl⟩
      refine allp_wild 0 rfl rfl rfl (fun a x W hout hin hP => ?_) ?_
      · obtain ⟨v42, e42, hv42⟩ := hin.get 3 42 (by kernel_rfl) (by decide) (by kernel_rfl) (.inr ⟨rfl, by kernel_rfl⟩)
        have e43 := hin.is 4 43 (by kernel_rfl) (by decide) (by kernel_rfl) (by kernel_rfl) _ rfl
        have hO8 := hv42
        have hlt := Nat.le_trans (Nat.le_of_eq HB0.out.symm) hP.size
        have hS5 : Slice W (.slice (some ⟨g4, 0, none⟩) 4 4) (padN c.n) := by
          have := row_slice ((HSW.out.same (by rw [HB0.out]; exact hP)).row 1 rfl) (c := 4) (by rw [length_padN]; decide)
          rwa [length_padN] at this
        clear hin hout
        intro K Q hK
        refine wp_append_slice (.tmp 42) (.tmp 43) rfl B0 _ 1 _ (eval_of_get e42) hO8 (some ⟨g4, 0, none⟩) 4 4 (padN c.n) (eval_of_get e43) hS5 (fun h => by cases h) (by decide) hlt ?_
        intro v' W' hO' hb'
        rw [← bytesV_apps] at hO'
        exact hK _ _ ⟨hP.trans hb', hO'⟩
      refine allp_mild 1 rfl rfl rfl (fun a x W hout hin hP => ?_) ?_
      · obtain ⟨v44, e44, hv44⟩ := hin.get 5 44 (by kernel_rfl) (by decide) (by kernel_rfl) (.inr ⟨rfl, by kernel_rfl⟩)
        exact does_assign rfl e44 ⟨Same.refl _, hv44⟩
      exact all_end (by decide)
    · intro x W hP hV
      have hO := hV 6 (by decide) (.inr (by kernel_rfl))
      obtain ⟨v5, hv5⟩ : ∃ v5, x 6 = v5 := ⟨_, rfl⟩
      have HO5 : Hid (W.ownsRow B0 5 1 v5 5 (bytesV ([byteI c.p] ++ padN c.n))) := Lib.hid (by rw [← hv5]; exact hO)
      have HB5 : Hid (Below B0 W12 W) := Lib.hid hP
      clear hV hP hO
      simp only [putL, Act.put, List.setIfInBounds_toArray, List.set_cons_succ, List.set_cons_zero, hv5]
      simp only [Nat.zero_add, Nat.reduceAdd]
      refine wpAnyH_done (by kernel_rfl) ?_ _
      clear hv5
      go_upto_region 5 with fail
      have hF0 : Wl [(fun W => Below B0 W12 W ∧ W.ownsRow B0 5 1 v5 5 (bytesV ([byteI c.p] ++ padN c.n))), (fun W => Below B0 W12 W), (fun W => Below B0 W12 W)] 0 W.drew := ⟨HB5.out.trans ((Below.refl _ _).drew.mono (Nat.le_trans (Nat.le_of_eq HB0.out.symm) HB5.out.size)), owns_call HO5.out (Below.refl _ _).drew⟩
      clear HB5 HO5
      refine wp_region_phs [is (v5), is (.pointer (some ⟨g1, 2, none⟩)), is (.int .i64 c.r), is (.int .u8 (bd (byteI c.r))), (fun v W => W.ownsRow B0 5 1 v 1 (bytesV ([byteI c.r]))), (fun v W => W.ownsRow B0 5 1 v 6 (bytesV (([byteI c.p] ++ padN c.n) ++ [byteI c.r]))), is (.pointer (some ⟨g1, 3, none⟩)), is (.int .u32 (wd c.u)), (fun v W => W.ownsRow B0 5 1 v 4 (bytesV (le c.u 4))), (fun v W => W.ownsRow B0 5 1 v 10 (bytesV (([byteI c.p] ++ padN c.n ++ [byteI c.r]) ++ le c.u 4))), (fun v W => W.ownsRow B0 5 1 v 10 (bytesV (([byteI c.p] ++ padN c.n ++ [byteI c.r]) ++ le c.u 4)))] [true, true, true, true, false, false, true, true, false, false, false] [(fun W => Below B0 W12 W ∧ W.ownsRow B0 5 1 v5 5 (bytesV ([byteI c.p] ++ padN c.n))), (fun W => Below B0 W12 W), (fun W => Below B0 W12 W)] [false, false, false, false, false, true, false, false, false, true, false] [some 0, some 0, some 0, some 0, some 0, some 0, none, none, some 1, some 1, some 2] [some 45, some 46, some 47, some 48, some 49, some 50, some 51, some 52, some 53, some 54, some 5] 11 2 (fun _ => true) rfl rfl (by kernel_rfl) (by kernel_rfl) (by kernel_rfl) (by kernel_rfl) ?_ ?_ ?_ ?_ ?_ ?_
      · repeat first | exact wok_nil | refine wok_cons (by first | exact fun _ _ h k => ⟨h.1.trans (k.mono (Nat.le_trans (Nat.le_of_eq HB0.out.symm) h.1.size)), owns_call h.2 k⟩ | exact fun _ _ h k => h.trans (k.mono (Nat.le_trans (Nat.le_of_eq HB0.out.symm) h.size))) ?_
      · repeat first | exact vok_nil | refine vok_rig (by first | exact fun _ _ _ h => h) ?_ | refine vok_soft (by first | exact fun _ _ _ h _ => h | exact fun _ _ _ h k => owns_call h k) ?_
      · exact hF0
      · repeat first | exact all_end (by decide) | refine all_cons (by first | exact rfl | exact ⟨rfl, fun _ _ h => Or.inl h⟩ | exact ⟨rfl, fun _ _ h => Or.inr ⟨h, rfl⟩⟩) ?_
      · refine allp_mild 0 rfl rfl rfl (fun a x W hout hin hP => ?_) ?_
        · have e5 : a.tmps[5]? = some (v5) := (hout 5 (by kernel_rfl)).trans rfl
          exact does_move rfl e5 ⟨Same.refl _, rfl⟩
        refine allp_mild 0 rfl rfl rfl (fun a x W hout hin hP => ?_) ?_
        · have e1 : a.tmps[1]? = some (.pointer (some ⟨g1, 0, none⟩)) := (hout 1 (by kernel_rfl)).trans rfl
          clear hin hout
          intro K Q hK
          go_simp
          exact hK _ _ ⟨Same.refl _, rfl⟩
        refine allp_mild 0 rfl rfl rfl (fun a x W hout hin hP => ?_) ?_
        · have e46 := hin.is 1 46 (by kernel_rfl) (by decide) (by kernel_rfl) (by kernel_rfl) _ rfl
          have hc : W.cell? ⟨g1, 2, none⟩ = some (.int .i64 c.r) := ((HSW.out.same (by rw [HB0.out]; exact hP.1)).row 0 rfl).get rfl
          clear hP
          clear hin hout
          intro K Q hK
          go_simp
          exact hK _ _ ⟨Same.refl _, rfl⟩
        refine allp_mild 0 rfl rfl rfl (fun a x W hout hin hP => ?_) ?_
        · have e47 := hin.is 2 47 (by kernel_rfl) (by decide) (by kernel_rfl) (by kernel_rfl) _ rfl
          have hw : IntKind.u8.wrap c.r = bd (byteI c.r) := wrap_u8_bd c.r
          clear hin hout
          intro K Q hK
          go_simp
          exact hK _ _ ⟨Same.refl _, rfl⟩
        refine allp_mild 0 rfl rfl rfl (fun a x W hout hin hP => ?_) ?_
        · have e48 := hin.is 3 48 (by kernel_rfl) (by decide) (by kernel_rfl) (by kernel_rfl) _ rfl
          have hlt := Nat.le_trans (Nat.le_of_eq HB0.out.symm) hP.1.size
          have ho := own_base (own_litq W [byteI c.r] (by unfold maxLen; simp)) hlt
          clear hP
          clear hin hout
          intro K Q hK
          go_simp
          exact hK _ _ ⟨Same.alloc _ _, ho⟩
        refine allp_wild 0 rfl rfl rfl (fun a x W hout hin hP => ?_) ?_
        · have e45 := hin.is 0 45 (by kernel_rfl) (by decide) (by kernel_rfl) (by kernel_rfl) _ rfl
          obtain ⟨v49, e49, hv49⟩ := hin.get 4 49 (by kernel_rfl) (by decide) (by kernel_rfl) (.inr ⟨rfl, by kernel_rfl⟩)
          have hO8 := hP.2
          have hlt := Nat.le_trans (Nat.le_of_eq HB0.out.symm) hP.1.size
          obtain ⟨A4, c4, rfl, hS5, hA4, _⟩ := own_item (q := [byteI c.r]) hv49 (by unfold maxLen; simp)
          clear hin hout
          intro K Q hK
          refine wp_append_slice (.tmp 45) (.tmp 49) rfl B0 _ 5 _ (eval_of_get e45) hO8 A4 1 c4 ([byteI c.r]) (eval_of_get e49) hS5 hA4 (by decide) hlt ?_
          intro v' W' hO' hb'
          rw [← bytesV_apps] at hO'
          exact hK _ _ ⟨hP.1.trans hb', hO'⟩
        refine allp_pure rfl rfl (fun a x W hout hin => ?_) ?_
        · have e1 : a.tmps[1]? = some (.pointer (some ⟨g1, 0, none⟩)) := (hout 1 (by kernel_rfl)).trans rfl
          clear hin hout
          intro K Q hK
          go_simp
          exact hK _ _ ⟨rfl, rfl⟩
        refine allp_any rfl rfl (fun a x W hout hin hP => ?_) ?_
        · have e51 := hin.is 6 51 (by kernel_rfl) (by decide) (by kernel_rfl) (by kernel_rfl) _ rfl
          have hc : W.cell? ⟨g1, 3, none⟩ = some (.int .u32 (wd c.u)) := (wl_any (S := fun W => Row W g1 24 (clmCells c)) (by intro F hF W h; simp only [List.mem_cons, List.not_mem_nil, or_false] at hF; rcases hF with rfl | rfl | rfl; exact (HSW.out.same (by rw [HB0.out]; exact h.1)).row 0 rfl; exact (HSW.out.same (by rw [HB0.out]; exact h)).row 0 rfl; exact (HSW.out.same (by rw [HB0.out]; exact h)).row 0 rfl) hP).get rfl
          clear hP
          clear hin hout
          intro K Q hK
          go_simp
          exact hK _ _ ⟨rfl, rfl⟩
        refine allp_mild 1 rfl rfl rfl (fun a x W hout hin hP => ?_) ?_
        · have e52 := hin.is 7 52 (by kernel_rfl) (by decide) (by kernel_rfl) (by kernel_rfl) _ rfl
          have hlt := Nat.le_trans (Nat.le_of_eq HB0.out.symm) hP.size
          clear hP
          clear hin hout
          intro K Q hK
          go_simp
          refine (refput_any c.u 4 W (by decide)).mono ?_
          rintro e W' ⟨u, rfl, hO, hb⟩
          exact hK _ _ ⟨hb, own_base hO hlt⟩
        refine allp_wild 1 rfl rfl rfl (fun a x W hout hin hP => ?_) ?_
        · obtain ⟨v50, e50, hv50⟩ := hin.get 5 50 (by kernel_rfl) (by decide) (by kernel_rfl) (.inr ⟨rfl, by kernel_rfl⟩)
          obtain ⟨v53, e53, hv53⟩ := hin.get 8 53 (by kernel_rfl) (by decide) (by kernel_rfl) (.inr ⟨rfl, by kernel_rfl⟩)
          have hO8 := hv50
          have hlt := Nat.le_trans (Nat.le_of_eq HB0.out.symm) hP.size
          obtain ⟨A4, c4, rfl, hS5, hA4, _⟩ := own_item (q := le c.u 4) (by rw [len_le4]; exact hv53) (by rw [len_le4]; decide)
          rw [len_le4] at e53 hS5
          clear hin hout
          intro K Q hK
          refine wp_append_slice (.tmp 50) (.tmp 53) rfl B0 _ 6 _ (eval_of_get e50) hO8 A4 4 c4 (le c.u 4) (eval_of_get e53) hS5 hA4 (by decide) hlt ?_
          intro v' W' hO' hb'
          rw [← bytesV_apps] at hO'
          exact hK _ _ ⟨hP.trans hb', hO'⟩
        refine allp_mild 2 rfl rfl rfl (fun a x W hout hin hP => ?_) ?_
        · obtain ⟨v54, e54, hv54⟩ := hin.get 9 54 (by kernel_rfl) (by decide) (by kernel_rfl) (.inr ⟨rfl, by kernel_rfl⟩)
          exact does_assign rfl e54 ⟨Same.refl _, hv54⟩
        exact all_end (by decide)
      · intro x W hP hV
        have hO := hV 10 (by decide) (.inr (by kernel_rfl))
        obtain ⟨v6, hv6⟩ : ∃ v6, x 10 = v6 := ⟨_, rfl⟩
        have HO6 : Hid (W.ownsRow B0 5 1 v6 10 (bytesV ([byteI c.p] ++ padN c.n ++ [byteI c.r] ++ le c.u 4))) := Lib.hid (by rw [← hv6]; exact hO)
        have HB6 : Hid (Below B0 W12 W) := Lib.hid hP
        clear hV hP hO
        simp only [putL, Act.put, List.setIfInBounds_toArray, List.set_cons_succ, List.set_cons_zero, hv6]
        simp only [Nat.zero_add, Nat.reduceAdd]
        refine wpAnyH_done (by kernel_rfl) ?_ _
        clear hv6
        have c4 : W.cell? ⟨g1, 4, none⟩ = some (.int .u32 (wd c.g)) := ((HSW.out.same (by rw [HB0.out]; exact HB6.out)).row 0 rfl).get rfl
        go_wp2_with fail
        refine (refput_any c.g 4 W (by decide)).mono ?_
        rintro e w7 ⟨u, rfl, hou, hb⟩
        have HB7 := Lib.hid (HB6.out.trans (hb.mono (Nat.le_trans (Nat.le_of_eq HB0.out.symm) HB6.out.size)))
        have hs7 := own_item (q := le c.g 4) (by rw [len_le4]; exact hou) (by rw [len_le4]; decide)
        have ho7 := owns_call HO6.out hb
        obtain ⟨A5, c5, rfl, hS5, hA5, _⟩ := hs7
        rw [len_le4] at hS5 ⊢
        clear hb hou c4 HO6 HB6
        go_wp2_with (at_builtin; refine wpList_append_slice rfl (.tmp 55) (.tmp 58) rfl B0 _ 10 _ rfl ho7 A5 4 c5 _ rfl hS5 hA5 (by decide) (Nat.le_trans (Nat.le_of_eq HB0.out.symm) HB7.out.size) ?_; intro v8 w8 own8 hb8; rw [← bytesV_apps] at own8; have HO8 := Lib.hid own8; have HB8 := Lib.hid (HB7.out.trans hb8); clear own8 hb8 ho7 hS5)
        go_ret2
        have hz : w.heap.size ≤ B0 := by rw [← HB0.out]; exact HSW.out.below.size
        refine ⟨_, rfl, ?_, HSW.out.below.trans (HB8.out.mono hz)⟩
        rw [HCL.out, HEQ.out]
        exact own_base HO8.out hz
set_option maxHeartbeats 800000 in
theorem rtokenc_bad (c : Clm) (t : List (BitVec 8)) (w : World) (hm : c.n.length ≤ maxLen) (hc : mayC c = false) : Calls Tryd.prog 19 #[.agg (tokCells c t)] w fun e w' => e = .returned (.tuple #[.slice none 0 0, .int .i64 11]) ∧ Below w.heap.size w w' := by
  have C := Lib.hid (fun W => rclaim_bad c W hm hc)
  have HSZ : Hid (((tokCells c t).toList.drop 0).take (clmCells c).size = (clmCells c).toList) := Lib.hid (tok_clm c t)
  clear hm hc
  have HS := St.nil w noF
  go_enter Tryd.func19, Tryd.ntmps19
  go_wp2_with (first | ((with_reducible refine wpList_plain ?_ ?_); exact rfl; intro KK hKK; refine wp_st_box HS 28 (.tmp 0) rfl _ rfl (tokCells c t) (rfl) (fun g1 W1 HSx => hKK _ _ ?_); clear hKK KK HS; have HS : St w noF [⟨g1, 28, tokCells c t⟩] W1 := HSx; clear HSx) | ((with_reducible refine wpList_plain ?_ ?_); exact rfl; intro KK hKK; refine wp_st_load HS 0 0 24 (.tmp 7) rfl rfl rfl (clmCells c) (HSZ.out) _ Tryd.underlying24 rfl (by exact size_clm) (hKK _ _ ?_); clear hKK KK))
  refine (C.out _).mono ?_
  rintro e w1 ⟨rfl, hb⟩
  have HSx := HS.same hb
  clear HS hb C
  go_wp2_with fail
  go_ret2
  exact ⟨rfl, HSx.below⟩
set_option maxHeartbeats 800000 in
theorem rtokenc_good (c : Clm) (t : List (BitVec 8)) (w : World) (ht : t.length = 32) (hm : c.n.length ≤ maxLen) (hc : mayC c = true) : Calls Tryd.prog 19 #[.agg (tokCells c t)] w fun e w' => ∃ v, e = .returned (.tuple #[v, .int .i64 0]) ∧ w'.ownsRow w.heap.size 5 1 v (clmB c ++ t).length (bytesV (clmB c ++ t)) ∧ Below w.heap.size w w' := by
  have C := Lib.hid (fun W => rclaim_good c W hm hc)
  have HSZ : Hid (((tokCells c t).toList.drop 0).take (clmCells c).size = (clmCells c).toList) := Lib.hid (tok_clm c t)
  have HTL := Lib.hid ht
  have HCL := Lib.hid (length_clmB c)
  clear hm hc ht
  have HS := St.nil w noF
  go_enter Tryd.func19, Tryd.ntmps19
  go_wp2_with (first | ((with_reducible refine wpList_plain ?_ ?_); exact rfl; intro KK hKK; refine wp_st_box HS 28 (.tmp 0) rfl _ rfl (tokCells c t) (rfl) (fun g1 W1 HSx => hKK _ _ ?_); clear hKK KK HS; have HS : St w noF [⟨g1, 28, tokCells c t⟩] W1 := HSx; clear HSx) | ((with_reducible refine wpList_plain ?_ ?_); exact rfl; intro KK hKK; refine wp_st_load HS 0 0 24 (.tmp 7) rfl rfl rfl (clmCells c) (HSZ.out) _ Tryd.underlying24 rfl (by exact size_clm) (hKK _ _ ?_); clear hKK KK))
  obtain ⟨B0, hB0⟩ : ∃ B0, W1.heap.size = B0 := ⟨_, rfl⟩
  refine (C.out W1).mono ?_
  rintro e w1 ⟨v1, rfl, ho, hb⟩
  have HB0 := Lib.hid hB0
  have HSW := Lib.hid HS
  rw [hB0, HCL.out] at ho
  rw [hB0] at hb
  have HO1 := Lib.hid ho
  have HB1 := Lib.hid hb
  clear ho hb hB0 C HS
  have HT : Hid (Slice w1 (.slice (some ⟨g1, 5, none⟩) 32 32) t) := Lib.hid (by
    have hr : Row w1 g1 28 (tokCells c t) := (HSW.out.same (by rw [HB0.out]; exact HB1.out)).row 0 rfl
    exact tok_slice hr HTL.out)
  go_wp2_with (at_builtin; refine wpList_append_slice rfl (.tmp 15) (.tmp 17) rfl B0 _ 14 _ rfl HO1.out (some ⟨g1, 5, none⟩) 32 32 _ rfl HT.out (fun h => by cases h) (by decide) (Nat.le_trans (Nat.le_of_eq HB0.out.symm) HB1.out.size) ?_; intro v5 W14 own5 hb5; rw [← bytesV_apps] at own5; have HO5 := Lib.hid own5; have HB5 := Lib.hid (HB1.out.trans hb5); clear own5 hb5 HO1 HT HB1)
  go_ret2
  have hz : w.heap.size ≤ B0 := by rw [← HB0.out]; exact HSW.out.below.size
  exact ⟨_, rfl, own_base (by rw [List.length_append, HCL.out, HTL.out]; exact HO5.out) hz, HSW.out.below.trans (HB5.out.mono hz)⟩
end Go.Proofs.YtobklbfcnbmnmaaDoor
