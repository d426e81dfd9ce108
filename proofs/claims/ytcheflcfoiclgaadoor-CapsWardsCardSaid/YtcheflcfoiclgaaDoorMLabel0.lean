/- Merged: LabelSpec TokSpec TokMay LabelRef Low TokPrg LowC TokDec TokEq TokPure TokWakes TokRef TokOpen CapOpen. -/
import Derived.Deep.AppendLies
import Derived.Laws.Cover3
import Derived.Laws.StructEq
import Derived.Test.YtcheflcfoiclgaaDoorMSeal0
import Derived.Test.YtcheflcfoiclgaaDoorMGen0
import Derived.Test.YtcheflcfoiclgaaDoorMStr0
/- A label as plain data: its bytes, what bytes tell, which is later, the bits of numbers. No program is named here. -/
set_option maxRecDepth 4000
namespace Go.Proofs.YtcheflcfoiclgaaDoor
def le (v : BitVec 32) (n : Nat) : List (BitVec 8) := (List.range n).map fun i => (v >>> (8 * i)).setWidth 8
end Go.Proofs.YtcheflcfoiclgaaDoor

/- Tokens: what they are, their bytes, plainly. No function of the program is named here. -/
set_option maxRecDepth 4000
namespace Go.Proofs.YtcheflcfoiclgaaDoor
open Go Go.RowKit
structure Clm where
  p : Int
  n : List (BitVec 8)
  r : Int
  u : BitVec 32
  g : BitVec 32
  deriving DecidableEq
def mayC (c : Clm) : Bool := decide (0 ≤ c.p) && decide (c.p < 4) && (decide (c.n = []) || goodN c.n) && decide (1 ≤ c.r) && decide (c.r ≤ 3)
def clmB (c : Clm) : List (BitVec 8) := byteI c.p :: (padN c.n ++ byteI c.r :: (le c.u 4 ++ le c.g 4))
theorem len_le4 (v : BitVec 32) : (le v 4).length = 4 := by simp [le]
theorem length_clmB (c : Clm) : (clmB c).length = 14 := by unfold clmB; simp [length_padN, len_le4]
def clmCells (c : Clm) : Array Value := #[.int .i64 c.p, .string (strB c.n), .int .i64 c.r, .int .u32 (wd c.u), .int .u32 (wd c.g)]
def tokCells (c : Clm) (q : List (BitVec 8)) : Array Value := clmCells c ++ bs q
def clm0 : Clm := ⟨0, [], 0, 0#32, 0#32⟩
theorem may_true {c : Clm} (h0 : 0 ≤ c.p) (h1 : c.p < 4) (hn : c.n = [] ∨ goodN c.n = true) (h2 : 1 ≤ c.r) (h3 : c.r ≤ 3) : mayC c = true := by
  unfold mayC; rw [decide_eq_true h0, decide_eq_true h1, decide_eq_true h2, decide_eq_true h3]
  rcases hn with h | h
  · rw [decide_eq_true h]; rfl
  · rw [h, Bool.or_true]; rfl
theorem may_p {c : Clm} (h : ¬ (0 ≤ c.p ∧ c.p < 4)) : mayC c = false := by
  unfold mayC
  by_cases h0 : 0 ≤ c.p
  · rw [decide_eq_false (show ¬ c.p < 4 from fun k => h ⟨h0, k⟩)]; simp
  · rw [decide_eq_false h0]; simp
theorem may_n {c : Clm} (h : ¬ c.n = []) (k : goodN c.n = false) : mayC c = false := by
  unfold mayC; rw [decide_eq_false h, k]; simp
theorem may_r {c : Clm} (h : ¬ (1 ≤ c.r ∧ c.r ≤ 3)) : mayC c = false := by
  unfold mayC
  by_cases h0 : 1 ≤ c.r
  · rw [decide_eq_false (show ¬ c.r ≤ 3 from fun k => h ⟨h0, k⟩)]; simp
  · rw [decide_eq_false h0]; simp
end Go.Proofs.YtcheflcfoiclgaaDoor

/- The program's token: may there be such a claim. -/
set_option maxRecDepth 4000
namespace Go.Proofs.YtcheflcfoiclgaaDoor
open Go Go.RowKit
attribute [local go_sem] strB_size
set_option maxHeartbeats 1600000 in
theorem maybe_any (c : Clm) (w : World) (hm : c.n.length ≤ maxLen) : Calls Tryd.prog 19 #[.agg (clmCells c)] w fun e w' => e = .returned (.bool (mayC c)) ∧ Below w.heap.size w w' := by
  have HM := Lib.hid hm
  have HG : Hid (∀ W : World, Calls Tryd.prog 31 #[.slice (some ⟨W.heap.size, 0, none⟩) 1 1] (W.alloc (.cells #[.string (strB c.n)] 9)) fun e w' => e = .returned (.bool (goodN c.n)) ∧ Below W.heap.size W w') := Lib.hid fun W => by
    refine (good_any [c.n] _ _ (strs1 W c.n hm 9) (by unfold maxLen; simp)).mono ?_
    rintro e w' ⟨rfl, hb⟩
    exact ⟨by unfold goodNs; simp, ((Below.refl W.heap.size W).alloc (Nat.le_refl _) _).trans (hb.mono (by simp))⟩
  have HTRUE := Lib.hid (@may_true c)
  have HFP := Lib.hid (@may_p c)
  have HFN := Lib.hid (@may_n c)
  have HFR := Lib.hid (@may_r c)
  obtain ⟨G, hG⟩ : ∃ G, mayC c = G := ⟨_, rfl⟩
  rw [hG] at HTRUE HFP HFN HFR ⊢
  clear hm hG
  have HS := St.nil w noF
  go_enter Tryd.func19, Tryd.ntmps19
  go_upto_region 1 with (first | ((with_reducible refine wpList_plain ?_ ?_); exact rfl; intro KK hKK; refine wp_st_box HS 27 (.tmp 0) rfl _ rfl (clmCells c) (rfl) (fun g1 W1 HSx => hKK _ _ ?_); clear hKK KK HS; have HS : St w noF [⟨g1, 27, clmCells c⟩] W1 := HSx; clear HSx))
  have c0 : W1.cell? ⟨g1, 0, none⟩ = some (.int .i64 c.p) := (HS.row 0 rfl).get rfl
  have c1 : W1.cell? ⟨g1, 1, none⟩ = some (.string (strB c.n)) := (HS.row 0 rfl).get rfl
  have c2 : W1.cell? ⟨g1, 2, none⟩ = some (.int .i64 c.r) := (HS.row 0 rfl).get rfl
  obtain ⟨p, hp⟩ : ∃ p, c.p = p := ⟨_, rfl⟩
  obtain ⟨r, hr⟩ : ∃ r, c.r = r := ⟨_, rfl⟩
  obtain ⟨q, hq⟩ : ∃ q, c.n = q := ⟨_, rfl⟩
  rw [hp] at c0 HTRUE HFP
  rw [hr] at c2 HTRUE HFR
  rw [hq] at c1 HG HTRUE HFN
  clear hp hr hq HM
  have HBW := Lib.hid HS.below
  have HLT : Hid (g1 < W1.heap.size) := Lib.hid (HS.row 0 rfl).lt
  clear HS
  by_cases h0 : p < 0
  · have d0 : decide (0 ≤ p) = false := decide_eq_false (by omega)
    have hG : G = false := HFP.out (by omega)
    go_wp2_with fail
    go_ret
    first | exact ⟨rfl, HBW.out⟩ | (rw [hG]; exact ⟨rfl, HBW.out⟩)
  have d0 : decide (0 ≤ p) = true := decide_eq_true (by omega)
  by_cases h1 : 4 ≤ p
  · have d1 : decide (p < 4) = false := decide_eq_false (by omega)
    have hG : G = false := HFP.out (by omega)
    go_wp2_with fail
    go_ret
    first | exact ⟨rfl, HBW.out⟩ | (rw [hG]; exact ⟨rfl, HBW.out⟩)
  have d1 : decide (p < 4) = true := decide_eq_true (by omega)
  by_cases hn : q = []
  · subst hn
    clear HG
    have q0 : ((strB []).toList == (⟨#[]⟩ : ByteArray).toList) = true := by rw [str_beq0]; rfl
    have q1 : (strB []).toList.isEmpty = true := by rw [str_emp]; rfl
    have q2 : (strB []).toList = [] := by rw [str_nil]
    by_cases h2 : r < 1
    · have d2 : decide (1 ≤ r) = false := decide_eq_false (by omega)
      have hG : G = false := HFR.out (by omega)
      go_wp2_with fail
      go_ret
      first | exact ⟨rfl, HBW.out⟩ | (rw [hG]; exact ⟨rfl, HBW.out⟩)
    have d2 : decide (1 ≤ r) = true := decide_eq_true (by omega)
    by_cases h3 : 3 < r
    · have d3 : decide (r ≤ 3) = false := decide_eq_false (by omega)
      have hG : G = false := HFR.out (by omega)
      go_wp2_with fail
      go_ret
      first | exact ⟨rfl, HBW.out⟩ | (rw [hG]; exact ⟨rfl, HBW.out⟩)
    have d3 : decide (r ≤ 3) = true := decide_eq_true (by omega)
    have hG : G = true := HTRUE.out (by omega) (by omega) (.inl rfl) (by omega) (by omega)
    go_wp2_with fail
    go_ret
    first | exact ⟨rfl, HBW.out⟩ | (rw [hG]; exact ⟨rfl, HBW.out⟩)
  · have q0 : ((strB q).toList == (⟨#[]⟩ : ByteArray).toList) = false := by rw [str_beq0, decide_eq_false hn]
    have q1 : (strB q).toList.isEmpty = false := by rw [str_emp, decide_eq_false hn]
    have q2 : ¬ (strB q).toList = [] := by rw [str_nil]; exact hn
    cases hg : goodN q with
    | false =>
      have hG : G = false := HFN.out hn hg
      rw [hg] at HG
      go_wp2_with fail
      refine (HG.out _).mono ?_
      rintro e w1 ⟨rfl, hb⟩
      go_wp2_with fail
      go_ret
      first | exact ⟨rfl, HBW.out.trans (hb.mono HBW.out.size)⟩ | (rw [hG]; exact ⟨rfl, HBW.out.trans (hb.mono HBW.out.size)⟩)
    | true =>
      have HGG := Lib.hid hg
      rw [hg] at HG
      clear hg hn
      by_cases h2 : r < 1
      · have d2 : decide (1 ≤ r) = false := decide_eq_false (by omega)
        have hG : G = false := HFR.out (by omega)
        go_wp2_with fail
        refine (HG.out _).mono ?_
        rintro e w1 ⟨rfl, hb⟩
        have HB1 := Lib.hid (HBW.out.trans (hb.mono HBW.out.size))
        have c2' : w1.cell? ⟨g1, 2, none⟩ = some (.int .i64 r) := (hb.cell (p := ⟨g1, 2, none⟩) (HLT.out)).trans c2
        clear hb
        go_wp2_with fail
        go_ret
        first | exact ⟨rfl, HB1.out⟩ | (rw [hG]; exact ⟨rfl, HB1.out⟩)
      have d2 : decide (1 ≤ r) = true := decide_eq_true (by omega)
      by_cases h3 : 3 < r
      · have d3 : decide (r ≤ 3) = false := decide_eq_false (by omega)
        have hG : G = false := HFR.out (by omega)
        go_wp2_with fail
        refine (HG.out _).mono ?_
        rintro e w1 ⟨rfl, hb⟩
        have HB1 := Lib.hid (HBW.out.trans (hb.mono HBW.out.size))
        have c2' : w1.cell? ⟨g1, 2, none⟩ = some (.int .i64 r) := (hb.cell (p := ⟨g1, 2, none⟩) (HLT.out)).trans c2
        clear hb
        go_wp2_with fail
        go_ret
        first | exact ⟨rfl, HB1.out⟩ | (rw [hG]; exact ⟨rfl, HB1.out⟩)
      have d3 : decide (r ≤ 3) = true := decide_eq_true (by omega)
      have hG : G = true := HTRUE.out (by omega) (by omega) (.inr HGG.out) (by omega) (by omega)
      go_wp2_with fail
      refine (HG.out _).mono ?_
      rintro e w1 ⟨rfl, hb⟩
      have HB1 := Lib.hid (HBW.out.trans (hb.mono HBW.out.size))
      have c2' : w1.cell? ⟨g1, 2, none⟩ = some (.int .i64 r) := (hb.cell (p := ⟨g1, 2, none⟩) (HLT.out)).trans c2
      clear hb
      go_wp2_with fail
      go_ret
      first | exact ⟨rfl, HB1.out⟩ | (rw [hG]; exact ⟨rfl, HB1.out⟩)
end Go.Proofs.YtcheflcfoiclgaaDoor

/- The document's numbers as bytes, the lowest first, and back. -/
set_option maxRecDepth 4000
namespace Go.Proofs.YtcheflcfoiclgaaDoor
open Go Go.RowKit
attribute [local go_sem] low_wd low8_wd low16_wd low24_wd shl8_wd conv_bd add_wd
end Go.Proofs.YtcheflcfoiclgaaDoor

/- Numbers as bytes, the lowest first, as the program's lowfirst appends and reads them. -/
set_option maxRecDepth 4000
namespace Go.Proofs.YtcheflcfoiclgaaDoor
open Go Go.RowKit
theorem bytesV_apps (p q : List (BitVec 8)) : bytesV (p ++ q) = bytesV p ++ bytesV q := by simp [bytesV]
def two (n : BitVec 16) : List (BitVec 8) := [n.setWidth 8, (n >>> 8).setWidth 8]
def four (v : BitVec 32) : List (BitVec 8) := two (v.setWidth 16) ++ two ((v >>> 16).setWidth 16)
theorem lw16 (x : BitVec 32) : IntKind.u16.wrap (wd x) = hd (x.setWidth 16) := by
  rw [IntKind.wrap_u16]; unfold wd hd; have := x.isLt; rw [BitVec.toNat_setWidth]; omega
theorem lwh (x : BitVec 16) : IntKind.u32.wrap (hd x) = wd (x.setWidth 32) := by
  rw [IntKind.wrap_u32]; unfold wd hd; have := x.isLt; rw [BitVec.toNat_setWidth]; omega
theorem lsh16 (x : BitVec 32) : IntKind.u16.wrap (wd x / (65536 : Int)) = hd ((x >>> 16).setWidth 16) := by rw [show wd x / (65536 : Int) = wd (x >>> 16) from shr_wd x 16, lw16]
attribute [local go_sem] lowb_hd lowb8_hd convb_hd shl8_hd or_hd lw16 lsh16 lwh or_wd shl16_wd
set_option maxHeartbeats 400000 in
theorem appshort_any (base : Nat) (q : List (BitVec 8)) (n : BitVec 16) (v : Value) (w : World) (h : w.ownsRow base 5 1 v q.length (bytesV q)) (hb : base ≤ w.heap.size) (hl : q.length ≤ 1000) :
    Calls Tryd.prog 32 #[v, .int .u16 (hd n)] w fun e w' => ∃ v', e = .returned v' ∧ w'.ownsRow base 5 1 v' (q.length + 2) (bytesV (q ++ two n)) ∧ Below base w w' := by
  obtain ⟨m, hm⟩ : ∃ m, q.length = m := ⟨_, rfl⟩
  rw [hm] at h hl ⊢
  clear hm
  obtain ⟨C, hC⟩ : ∃ C, (#[.int .u8 (bd (n.setWidth 8)), .int .u8 (bd ((n >>> 8).setWidth 8))] : Array Value) = C := ⟨_, rfl⟩
  have HR4 : Hid (Slice (w.alloc (.cells #[.int .u8 (bd (n.setWidth 8)), .int .u8 (bd ((n >>> 8).setWidth 8))] 5)) (.slice (some ⟨w.heap.size, 0, none⟩) 2 2) (two n)) := Lib.hid (row_slice (Row.fresh w 5 (bs (two n))) (c := 2) (Nat.le_refl _))
  have HO4 := Lib.hid (h.alloc (.cells #[.int .u8 (bd (n.setWidth 8)), .int .u8 (bd ((n >>> 8).setWidth 8))] 5))
  have HB2 := Lib.hid ((Below.refl base w).alloc hb (.cells #[.int .u8 (bd (n.setWidth 8)), .int .u8 (bd ((n >>> 8).setWidth 8))] 5))
  have HB4 := Lib.hid (Nat.le_trans hb HB2.out.size)
  clear h hb hC
  go_enter Tryd.func32, Tryd.ntmps32
  go_wp2_with (at_builtin; refine wpList_append_slice rfl (.tmp 5) (.tmp 11) rfl base _ m _ rfl HO4.out (some ⟨w.heap.size, 0, none⟩) 2 2 _ rfl HR4.out (fun h => by cases h) (by omega) HB4.out ?_; intro v6 w6 own6 hb6; rw [← bytesV_apps] at own6; have HO6 := Lib.hid own6; have HB6 := Lib.hid (HB2.out.trans hb6); clear own6 hb6)
  go_ret
  exact ⟨_, rfl, HO6.out, HB6.out⟩
set_option maxHeartbeats 400000 in
theorem applong_any (base : Nat) (q : List (BitVec 8)) (n : BitVec 32) (v : Value) (w : World) (h : w.ownsRow base 5 1 v q.length (bytesV q)) (hb : base ≤ w.heap.size) (hl : q.length ≤ 900) :
    Calls Tryd.prog 21 #[v, .int .u32 (wd n)] w fun e w' => ∃ v', e = .returned v' ∧ w'.ownsRow base 5 1 v' (q.length + 4) (bytesV (q ++ four n)) ∧ Below base w w' := by
  have C1 := appshort_any base q (n.setWidth 16) v w h hb (by omega)
  have HB := Lib.hid hb
  have HL := Lib.hid hl
  clear h hb hl
  go_enter Tryd.func21, Tryd.ntmps21
  go_wp2_with fail
  refine C1.mono ?_
  rintro e w1 ⟨v1, rfl, h1, b1⟩
  clear C1
  have C2 := appshort_any base (q ++ two (n.setWidth 16)) ((n >>> 16).setWidth 16) v1 w1 (by rw [List.length_append]; exact h1) (Nat.le_trans HB.out b1.size) (by rw [List.length_append]; have := HL.out; show q.length + 2 ≤ 1000; omega)
  have B1 := Lib.hid b1
  clear h1 b1
  go_wp2_with fail
  refine C2.mono ?_
  rintro e w2 ⟨v2, rfl, h2, b2⟩
  clear C2
  rw [List.append_assoc, List.length_append] at h2
  have H2 := Lib.hid h2
  have B2 := Lib.hid (B1.out.trans b2)
  clear h2 b2
  go_wp2_with fail
  go_ret
  exact ⟨_, rfl, H2.out, B2.out⟩
theorem le4 (v : BitVec 32) : le v 4 = [(v.setWidth 16).setWidth 8, ((v.setWidth 16) >>> 8).setWidth 8, ((v >>> 16).setWidth 16).setWidth 8, (((v >>> 16).setWidth 16) >>> 8).setWidth 8] := by
  have e : le v 4 = [(v >>> (8 * 0)).setWidth 8, (v >>> (8 * 1)).setWidth 8, (v >>> (8 * 2)).setWidth 8, (v >>> (8 * 3)).setWidth 8] := rfl
  rw [e]
  have := v.isLt
  have h0 : (v >>> (8 * 0)).setWidth 8 = (v.setWidth 16).setWidth 8 := BitVec.eq_of_toNat_eq (by simp only [BitVec.toNat_setWidth, BitVec.toNat_ushiftRight, Nat.shiftRight_eq_div_pow]; omega)
  have h1 : (v >>> (8 * 1)).setWidth 8 = ((v.setWidth 16) >>> 8).setWidth 8 := BitVec.eq_of_toNat_eq (by simp only [BitVec.toNat_setWidth, BitVec.toNat_ushiftRight, Nat.shiftRight_eq_div_pow]; omega)
  have h2 : (v >>> (8 * 2)).setWidth 8 = ((v >>> 16).setWidth 16).setWidth 8 := BitVec.eq_of_toNat_eq (by simp only [BitVec.toNat_setWidth, BitVec.toNat_ushiftRight, Nat.shiftRight_eq_div_pow]; omega)
  have h3 : (v >>> (8 * 3)).setWidth 8 = (((v >>> 16).setWidth 16) >>> 8).setWidth 8 := BitVec.eq_of_toNat_eq (by simp only [BitVec.toNat_setWidth, BitVec.toNat_ushiftRight, Nat.shiftRight_eq_div_pow]; omega)
  rw [h0, h1, h2, h3]
theorem four_le (v : BitVec 32) : four v = le v 4 := by rw [le4]; rfl
end Go.Proofs.YtcheflcfoiclgaaDoor

/- The program's token: a claim's bytes, a token's. -/
set_option maxRecDepth 4000
namespace Go.Proofs.YtcheflcfoiclgaaDoor
open Go Go.RowKit
theorem size_clm : (Tryd.prog.info? 27).map (·.size) = some 5 := by kernel_rfl
theorem clmB_eq (c : Clm) : clmB c = [byteI c.p] ++ padN c.n ++ [byteI c.r] ++ four c.u ++ four c.g := by unfold clmB; rw [four_le, four_le]; simp
set_option maxHeartbeats 800000 in
theorem claim_bad (c : Clm) (w : World) (hm : c.n.length ≤ maxLen) (hc : mayC c = false) : Calls Tryd.prog 14 #[.agg (clmCells c)] w fun e w' => e = .returned (.tuple #[.slice none 0 0, .int .i64 11]) ∧ Below w.heap.size w w' := by
  have C := Lib.hid (fun W => maybe_any c W hm)
  rw [hc] at C
  clear hm hc
  have HS := St.nil w noF
  go_enter Tryd.func14, Tryd.ntmps14
  go_wp2_with (first | ((with_reducible refine wpList_plain ?_ ?_); exact rfl; intro KK hKK; refine wp_st_box HS 27 (.tmp 0) rfl _ rfl (clmCells c) (rfl) (fun g1 W1 HSx => hKK _ _ ?_); clear hKK KK HS; have HS : St w noF [⟨g1, 27, clmCells c⟩] W1 := HSx; clear HSx) | ((with_reducible refine wpList_plain ?_ ?_); exact rfl; intro KK hKK; refine wp_st_load HS 0 0 27 (.tmp 1) rfl rfl rfl (clmCells c) (slab_whole _) _ Tryd.underlying27 rfl (by exact size_clm) (hKK _ _ ?_); clear hKK KK))
  refine (C.out _).mono ?_
  rintro e w1 ⟨rfl, hb⟩
  have HSx := HS.same hb
  clear HS hb C
  go_wp2_with fail
  go_ret2
  exact ⟨rfl, HSx.below⟩
set_option maxHeartbeats 1600000 in
theorem claim_good (c : Clm) (w : World) (hm : c.n.length ≤ maxLen) (hc : mayC c = true) : Calls Tryd.prog 14 #[.agg (clmCells c)] w fun e w' => ∃ v, e = .returned (.tuple #[v, .int .i64 0]) ∧ w'.ownsRow w.heap.size 5 1 v (clmB c).length (bytesV (clmB c)) ∧ Below w.heap.size w w' := by
  have C := Lib.hid (fun W => maybe_any c W hm)
  rw [hc] at C
  clear hm hc
  have HEQ := Lib.hid (clmB_eq c)
  have HS := St.nil w noF
  go_enter Tryd.func14, Tryd.ntmps14
  go_wp2_with (first | ((with_reducible refine wpList_plain ?_ ?_); exact rfl; intro KK hKK; refine wp_st_box HS 27 (.tmp 0) rfl _ rfl (clmCells c) (rfl) (fun g1 W1 HSx => hKK _ _ ?_); clear hKK KK HS; have HS : St w noF [⟨g1, 27, clmCells c⟩] W1 := HSx; clear HSx) | ((with_reducible refine wpList_plain ?_ ?_); exact rfl; intro KK hKK; refine wp_st_load HS 0 0 27 (.tmp 1) rfl rfl rfl (clmCells c) (slab_whole _) _ Tryd.underlying27 rfl (by exact size_clm) (hKK _ _ ?_); clear hKK KK))
  refine (C.out _).mono ?_
  rintro e w1 ⟨rfl, hb⟩
  have HSx := HS.same hb
  clear HS hb C
  have HS := HSx
  clear HSx
  have c1 : w1.cell? ⟨g1, 1, none⟩ = some (.string (strB c.n)) := (HS.row 0 rfl).get rfl
  go_wp2_with fail
  refine (pad_any c.n _).mono ?_
  rintro e w2 ⟨rfl, hb⟩
  have HSx := HS.same hb
  clear HS hb c1
  have HS := HSx
  clear HSx
  go_upto_region 4 with (first | ((with_reducible refine wpList_plain ?_ ?_); exact rfl; intro KK hKK; refine wp_st_alloc HS 59 (bs (zer 4)) rfl (.agg (bs (zer 4))) (by kernel_rfl) (rfl) (fun g4 W11 HSx => hKK _ _ ?_); clear hKK KK HS; have HS : St w noF [⟨g1, 27, clmCells c⟩, ⟨g4, 59, bs (zer 4)⟩] W11 := HSx; clear HSx) | ((with_reducible refine wpList_plain ?_ ?_); exact rfl; intro KK hKK; refine wp_st_store HS 1 0 59 (.tmp 4) (.tmp 11) rfl rfl rfl (.agg (bs (padN c.n))) rfl (by rw [show Value.cells (.agg (bs (padN c.n))) = bs (padN c.n) from rfl, size_bs, length_padN]; exact size_b4) (by rw [show Value.cells (.agg (bs (padN c.n))) = bs (padN c.n) from rfl, size_bs, length_padN, size_bs, length_zer]; decide) (by exact one_bs _) (bs (padN c.n)) (spl_agg _ _ _ rfl (by rw [size_bs, size_bs, length_padN, length_zer])) (fun W12 HSx => hKK _ _ ?_); clear hKK KK HS; have HS : St w noF [⟨g1, 27, clmCells c⟩, ⟨g4, 59, bs (padN c.n)⟩] W12 := HSx; clear HSx))
  obtain ⟨B0, hB0⟩ : ∃ B0, W12.heap.size = B0 := ⟨_, rfl⟩
  have HB0 := Lib.hid hB0
  have HSW := Lib.hid HS
  have c0 : W12.cell? ⟨g1, 0, none⟩ = some (.int .i64 c.p) := (HS.row 0 rfl).get rfl
  have hw0 : IntKind.u8.wrap c.p = bd (byteI c.p) := wrap_u8_bd c.p
  have OW := own_litq W12 [byteI c.p] (by unfold maxLen; simp)
  have HBA := Lib.hid ((Below.refl W12.heap.size W12).alloc (Nat.le_refl _) (.cells #[.int .u8 (bd (byteI c.p))] 5))
  clear HS
  rw [hB0] at OW HBA
  have HOW : Hid ((W12.alloc (.cells #[.int .u8 (bd (byteI c.p))] 5)).ownsRow B0 5 1 (.slice (some ⟨B0, 0, none⟩) 1 1) [byteI c.p].length (bytesV [byteI c.p])) := Lib.hid OW
  clear OW hB0
  go_upto_region 5 with fail
  rw [HB0.out]
  generalize W12.alloc (.cells #[.int .u8 (bd (byteI c.p))] 5) = W13 at *
  have HS13 := Lib.hid (HSW.out.same (by rw [HB0.out]; exact HBA.out))
  have HP4 : Hid (Slice W13 (.slice (some ⟨g4, 0, none⟩) 4 4) (padN c.n)) := Lib.hid (by
    have := row_slice (HS13.out.row 1 rfl) (c := 4) (by rw [length_padN]; decide)
    rwa [length_padN] at this)
  clear c0 hw0
  go_upto_region 6 with (at_builtin; refine wpList_append_slice rfl (.tmp 16) (.tmp 17) rfl B0 _ 1 _ rfl HOW.out (some ⟨g4, 0, none⟩) 4 4 _ rfl HP4.out (fun h => by cases h) (by decide) (Nat.le_trans (Nat.le_of_eq HB0.out.symm) HBA.out.size) ?_; intro v5 W14 own5 hb5; rw [← bytesV_apps] at own5; have HO5 := Lib.hid own5; have HB5 := Lib.hid (HBA.out.trans hb5); clear own5 hb5 HOW HP4 HS13 HBA)
  have HS14 := Lib.hid (HSW.out.same (by rw [HB0.out]; exact HB5.out))
  have c2 : W14.cell? ⟨g1, 2, none⟩ = some (.int .i64 c.r) := (HS14.out.row 0 rfl).get rfl
  have hw0 : IntKind.u8.wrap c.r = bd (byteI c.r) := wrap_u8_bd c.r
  have HP5 : Hid (Slice (W14.alloc (.cells #[.int .u8 (bd (byteI c.r))] 5)) (.slice (some ⟨W14.heap.size, 0, none⟩) 1 1) [byteI c.r]) := Lib.hid (row_slice (Row.fresh W14 5 (bs [byteI c.r])) (c := 1) (Nat.le_refl _))
  have HO6 := Lib.hid (HO5.out.alloc (.cells #[.int .u8 (bd (byteI c.r))] 5))
  have HB6 := Lib.hid (HB5.out.alloc (by rw [← HB0.out]; exact HB5.out.size) (.cells #[.int .u8 (bd (byteI c.r))] 5))
  clear HO5 HS14
  go_upto_region 7 with (at_builtin; refine wpList_append_slice rfl (.tmp 19) (.tmp 23) rfl B0 _ 5 _ rfl HO6.out (some ⟨W14.heap.size, 0, none⟩) 1 1 _ rfl HP5.out (fun h => by cases h) (by decide) (Nat.le_trans (Nat.le_of_eq HB0.out.symm) HB6.out.size) ?_; intro v6 W15 own6 hb6; rw [← bytesV_apps] at own6; have HO7 := Lib.hid own6; have HB7 := Lib.hid (HB6.out.trans hb6); clear own6 hb6 HP5 HO6 HB6 c2 hw0)
  have HS15 := Lib.hid (HSW.out.same (by rw [HB0.out]; exact HB7.out))
  have c3 : W15.cell? ⟨g1, 3, none⟩ = some (.int .u32 (wd c.u)) := (HS15.out.row 0 rfl).get rfl
  have C := applong_any B0 ([byteI c.p] ++ padN c.n ++ [byteI c.r]) c.u v6 W15 (by rw [List.length_append, List.length_append, length_padN]; exact HO7.out) (Nat.le_trans (Nat.le_of_eq HB0.out.symm) HB7.out.size) (by rw [List.length_append, List.length_append, length_padN]; exact Nat.le_of_ble_eq_true rfl)
  clear HO7 HS15 HB5
  go_wp2_with fail
  refine C.mono ?_
  rintro e W16 ⟨v7, rfl, h7, b7⟩
  have HB8 := Lib.hid (HB7.out.trans b7)
  clear C c3 b7 HB7
  have HS16 := Lib.hid (HSW.out.same (by rw [HB0.out]; exact HB8.out))
  have c4 : W16.cell? ⟨g1, 4, none⟩ = some (.int .u32 (wd c.g)) := (HS16.out.row 0 rfl).get rfl
  have C := applong_any B0 ([byteI c.p] ++ padN c.n ++ [byteI c.r] ++ four c.u) c.g v7 W16 (by rw [List.length_append]; exact h7) (Nat.le_trans (Nat.le_of_eq HB0.out.symm) HB8.out.size) (by rw [List.length_append, List.length_append, List.length_append, length_padN]; exact Nat.le_of_ble_eq_true rfl)
  clear h7 HS16
  go_wp2_with fail
  refine C.mono ?_
  rintro e W17 ⟨v8, rfl, h8, b8⟩
  have HB9 := Lib.hid (HB8.out.trans b8)
  have HO8 := Lib.hid h8
  clear C c4 b8 HB8 h8
  go_wp2_with fail
  go_ret2
  have hz : w.heap.size ≤ B0 := by rw [← HB0.out]; exact HSW.out.below.size
  refine ⟨_, rfl, ?_, HSW.out.below.trans (HB9.out.mono hz)⟩
  rw [HEQ.out]
  exact own_base (by rw [List.length_append]; exact HO8.out) hz
end Go.Proofs.YtcheflcfoiclgaaDoor

/- Numbers that slices begin with, as the program's lowfirst reads them. -/
set_option maxRecDepth 4000
namespace Go.Proofs.YtcheflcfoiclgaaDoor
open Go Go.RowKit
/- block g holds q from offset a on -/
structure BAt (w : World) (g o : Nat) (q : List (BitVec 8)) : Prop where
  lt : g < w.heap.size
  at_ : ∀ (j : Nat) (x : BitVec 8), q[j]? = some x → w.cell? ⟨g, o + j, none⟩ = some (.int .u8 (bd x))
theorem BAt.below {w w' : World} {g o B : Nat} {q : List (BitVec 8)} (h : BAt w g o q) (hb : Below B w w') (hg : g < B) : BAt w' g o q := ⟨Nat.lt_of_lt_of_le h.lt hb.size, fun j x hx => (hb.cell (p := ⟨g, o + j, none⟩) hg).trans (h.at_ j x hx)⟩
theorem BAt.call {w w' : World} {g o : Nat} {q : List (BitVec 8)} (h : BAt w g o q) (hb : Below w.heap.size w w') : BAt w' g o q := h.below hb h.lt
theorem BAt.get {w : World} {g o : Nat} {q : List (BitVec 8)} (h : BAt w g o q) (j : Nat) (hj : j < q.length) : w.cell? ⟨g, o + j, none⟩ = some (.int .u8 (bd (q.getD j 0#8))) :=
  h.at_ j _ (by rw [List.getD_eq_getElem?_getD, List.getElem?_eq_getElem hj]; rfl)
theorem BAt.drop {w : World} {g o : Nat} {q : List (BitVec 8)} (h : BAt w g o q) (k : Nat) : BAt w g (o + k) (q.drop k) := ⟨h.lt, fun j x hx => by
  rw [List.getElem?_drop] at hx
  rw [Nat.add_assoc]
  exact h.at_ (k + j) x hx⟩
theorem BAt.take {w : World} {g o : Nat} {q : List (BitVec 8)} (h : BAt w g o q) (k : Nat) : BAt w g o (q.take k) := ⟨h.lt, fun j x hx => by
  refine h.at_ j x ?_
  by_cases hj : j < k
  · rw [List.getElem?_take_of_lt hj] at hx; exact hx
  · rw [List.getElem?_eq_none (by rw [List.length_take]; omega)] at hx; cases hx⟩
theorem BAt.slice {w : World} {g o c : Nat} {q : List (BitVec 8)} (h : BAt w g o q) {n : Nat} (hn : q.length = n) (hc : n ≤ c) : Slice w (.slice (some ⟨g, o, none⟩) n c) q :=
  ⟨_, c, by rw [hn], by rw [hn]; exact hc, fun _ => ⟨g, o, rfl, h.lt, h.at_⟩⟩
theorem BAt.range {w : World} {g o : Nat} {q : List (BitVec 8)} (h : BAt w g o q) (k n : Nat) (_ : k + n ≤ q.length) : w.rangeAt g (o + k) (bytesV ((q.drop k).take n)) := fun j v hv => by
  simp only [bytesV, List.getElem?_map, Option.map_eq_some_iff] at hv
  obtain ⟨x, hx, rfl⟩ := hv
  exact ((h.drop k).take n).at_ j x hx
theorem BAt.far {w w' : World} {g o k : Nat} {q : List (BitVec 8)} (h : BAt w g o q) (hg : w.grownBy w' (some k)) (hne : g ≠ k) : BAt w' g o q :=
  ⟨Nat.lt_of_lt_of_le h.lt hg.size, fun j x hx => (hg.cell_far ⟨g, o + j, none⟩ h.lt (by simpa using hne)).trans (h.at_ j x hx)⟩
attribute [local go_sem] lowb_hd lowb8_hd convb_hd shl8_hd or_hd lw16 lsh16 lwh or_wd shl16_wd
end Go.Proofs.YtcheflcfoiclgaaDoor

/- The program's token of bytes, or that there is none. -/
set_option maxRecDepth 4000
namespace Go.Proofs.YtcheflcfoiclgaaDoor
open Go Go.RowKit
end Go.Proofs.YtcheflcfoiclgaaDoor

/- Two tokens compared; what tokens' bytes come to. -/
set_option maxRecDepth 4000
namespace Go.Proofs.YtcheflcfoiclgaaDoor
open Go Go.RowKit
theorem take_tok (c : Clm) (t : List (BitVec 8)) : (tokCells c t).extract 0 5 = clmCells c := by
  unfold tokCells
  rw [Array.extract_append]
  simp [clmCells]
theorem drop_tok (c : Clm) (t : List (BitVec 8)) (h : t.length = 32) : (tokCells c t).extract 5 37 = bs t := by
  unfold tokCells
  rw [Array.extract_append]
  have h5 : (clmCells c).size = 5 := rfl
  rw [h5, Array.extract_empty_of_size_le_start (by rw [h5]; exact Nat.le_refl 5), Array.empty_append, show 5 - 5 = 0 from rfl, show 37 - 5 = (bs t).size by rw [size_bs, h], Array.extract_size]
theorem eql_tok (a b : Clm) (p q : List (BitVec 8)) (hp : p.length = 32) (hq : q.length = 32) (w : World) : (Op.equalIn 10000 31 (.agg (tokCells a p)) (.agg (tokCells b q))).run Tryd.prog w = .ok (decide (a = b ∧ p = q)) w := by
  have hS : Tryd.prog.underlying 31 = some (.struct (Tryd.prog.fieldsOf 31)) := by kernel_rfl
  have h3 : ∀ w, (Op.equalIn 9999 29 (.agg (bs p)) (.agg (bs q))).run Tryd.prog w = .ok (decide (p = q)) w := fun w => equal_bytesD 9997 29 32 p q hp hq Tryd.underlying29 w
  have e : decide (a = b ∧ p = q) = (a.p == b.p && (((strB a.n).toList == (strB b.n).toList) && (a.r == b.r && (wd a.u == wd b.u && (wd a.g == wd b.g && decide (p = q)))))) := by
    rw [str_beq]
    by_cases h : a = b
    · subst h; simp
    · rw [decide_eq_false (fun k => h k.1)]
      symm
      cases hx : (a.p == b.p && (decide (a.n = b.n) && (a.r == b.r && (wd a.u == wd b.u && (wd a.g == wd b.g && decide (p = q)))))) with
      | false => rfl
      | true =>
        simp only [Bool.and_eq_true, beq_iff_eq, decide_eq_true_eq] at hx
        obtain ⟨h1, h2, h3, h4, h5, _⟩ := hx
        obtain ⟨p, n, r, u, g⟩ := a
        obtain ⟨p', n', r', u', g'⟩ := b
        simp only at h1 h2 h3 h4 h5
        exact absurd (by rw [h1, h2, h3, wd_inj h4, wd_inj h5]) h
  rw [e, show (10000 : Nat) = 9999 + 1 from rfl, run_equalIn_agg w 9999 31 _ _ hS (by kernel_rfl)]
  simp only [Program.fieldsOf, Tryd.underlying31]
  go_simp
  rw [take_tok, take_tok, drop_tok a p hp, drop_tok b q hq]
  clear e hp hq
  have u1 := Tryd.underlying23
  have u2 := Tryd.underlying3
  have u3 := Tryd.underlying9
  unfold clmCells
  generalize decide (p = q) = D at *
  generalize bs p = P at *
  generalize bs q = Q at *
  generalize wd a.u = a1
  generalize wd a.g = a2
  generalize wd b.u = b1
  generalize wd b.g = b2
  generalize strB a.n = s
  generalize strB b.n = s'
  generalize a.p = k
  generalize b.p = k'
  generalize a.r = r
  generalize b.r = r'
  go_simp
  cases D <;> by_cases h1 : k = k' <;> by_cases h2 : s.toList = s'.toList <;> by_cases h3 : r = r' <;> by_cases h4 : a1 = b1 <;> by_cases h5 : a2 = b2 <;> simp [h1, h2, h3, h4, h5]
end Go.Proofs.YtcheflcfoiclgaaDoor

/- Tokens and their bytes: each is told by the other. -/
set_option maxRecDepth 4000
namespace Go.Proofs.YtcheflcfoiclgaaDoor
open Go Go.RowKit
theorem may_parts {c : Clm} (h : mayC c = true) : 0 ≤ c.p ∧ c.p < 4 ∧ (c.n = [] ∨ goodN c.n = true) ∧ 1 ≤ c.r ∧ c.r ≤ 3 := by
  unfold mayC at h
  simp only [Bool.and_eq_true, decide_eq_true_eq, Bool.or_eq_true] at h
  exact ⟨h.1.1.1.1, h.1.1.1.2, h.1.1.2, h.1.2, h.2⟩
end Go.Proofs.YtcheflcfoiclgaaDoor

/- The example of token's statements. -/
set_option maxRecDepth 4000
namespace Go.Proofs.YtcheflcfoiclgaaDoor
open Go Go.RowKit
attribute [local go_sem high] eql_tok
end Go.Proofs.YtcheflcfoiclgaaDoor

/- The document's token: a claim's bytes, a token's. -/
set_option maxRecDepth 4000
namespace Go.Proofs.YtcheflcfoiclgaaDoor
open Go Go.RowKit
attribute [local go_sem] strB_size
end Go.Proofs.YtcheflcfoiclgaaDoor

/- Tokens that are handed in, opened. -/
set_option maxRecDepth 4000
namespace Go.Proofs.YtcheflcfoiclgaaDoor
open Go Go.ChangeShapes Go.WideShapes Go.ChangeAt Go.RowKit
def rdClm : Rd (Int × ByteArray × Int × BitVec 32 × BitVec 32 × Unit) := rdCons 1 (rdInt .i64) (rdCons 1 rdStr (rdCons 1 (rdInt .i64) (rdCons 1 rdU32 (rdCons 1 rdU32 rdNil))))
theorem cellsI64t : Tryd.prog.cellsOf 3 = 1 := by kernel_rfl
theorem cellsStrt : Tryd.prog.cellsOf 9 = 1 := by kernel_rfl
theorem cellsU32t : Tryd.prog.cellsOf 23 = 1 := by kernel_rfl
theorem opens_clm : Opens Tryd.prog 27 rdClm :=
  opens_struct Tryd.underlying27 (by kernel_rfl) (opensF_cons rfl cellsI64t (opens_int Tryd.underlying3) (opensF_cons rfl cellsStrt (opens_str Tryd.underlying9) (opensF_cons rfl cellsI64t (opens_int Tryd.underlying3) (opensF_cons rfl cellsU32t (opens_u32 Tryd.underlying23) (opensF_cons rfl cellsU32t (opens_u32 Tryd.underlying23) opensF_nil)))))
theorem clm_at {W : World} {ds : List Value} {x : Int × ByteArray × Int × BitVec 32 × BitVec 32 × Unit} (h : rdClm W ds x) : ∃ c : Clm, ds = (clmCells c).toList ∧ c.n.length ≤ maxLen := by
  obtain ⟨p, s, r, u, g, _⟩ := x
  obtain ⟨c0, d0, rfl, _, ⟨rfl, _⟩, c1, d1, rfl, _, ⟨rfl, hs⟩, c2, d2, rfl, _, ⟨rfl, _⟩, c3, d3, rfl, _, h3, c4, d4, rfl, _, h4, h5⟩ := h
  have h3 : c3 = [.int .u32 (wd u)] := h3
  have h4 : c4 = [.int .u32 (wd g)] := h4
  have h5 : d4 = [] := h5
  subst h3 h4 h5
  obtain ⟨q, hq⟩ := strB_all s
  simp only at hs hq
  refine ⟨⟨p, q, r, u, g⟩, ?_, ?_⟩
  · rw [hq]; rfl
  · rw [hq, strB_size] at hs; exact hs
end Go.Proofs.YtcheflcfoiclgaaDoor

/- Wards, claims, what is asked, as arguments, opened. -/
set_option maxRecDepth 4000
namespace Go.Proofs.YtcheflcfoiclgaaDoor
open Go Go.ChangeShapes Go.WideShapes Go.ChangeAt Go.RowKit
open Go.ChangeMaps (open_string)
def rdWard : Rd (List (BitVec 8) × Int × BitVec 32 × BitVec 32 × Unit) := rdCons 1 (rdSl 1 rdU8) (rdCons 1 (rdInt .i64) (rdCons 1 rdU32 (rdCons 1 rdU32 rdNil)))
theorem cellsU8w : Tryd.prog.cellsOf 5 = 1 := by kernel_rfl
theorem cellsKey : Tryd.prog.cellsOf 22 = 1 := by kernel_rfl
theorem opens_ward : Opens Tryd.prog 25 rdWard :=
  opens_struct Tryd.underlying25 (by kernel_rfl) (opensF_cons rfl cellsKey (opens_sl Tryd.underlying22 cellsU8w (by decide) (opens_u8 Tryd.underlying5)) (opensF_cons rfl cellsI64t (opens_int Tryd.underlying3) (opensF_cons rfl cellsU32t (opens_u32 Tryd.underlying23) (opensF_cons rfl cellsU32t (opens_u32 Tryd.underlying23) opensF_nil))))
theorem open_ward {H : Type} {enc : TypeId × Value → H} {W : World} {r : Reach} {base : Nat} {v : Value} {d : DataW H} {ps : List MemPlace} (hval : Value.okWide Tryd.prog W r base 25 v)
    (h : DataW.Trod enc Tryd.prog W 0 (fun _ => true) true 25 v d ps) (hlt : ∀ x ∈ ps, x.block < W.heap.size) :
    ∃ A n c key pl gn tk, v = .agg #[.slice A n c, .int .i64 pl, .int .u32 (wd gn), .int .u32 (wd tk)] ∧ Item W (.slice A n c) key := by
  obtain ⟨cs, ⟨key, pl, gn, tk, _⟩, rfl, hx⟩ := open_argRec Tryd.underlying25 opens_ward hval h hlt
  obtain ⟨c0, d0, e0, _, h0, c1, d1, rfl, _, ⟨rfl, _⟩, c2, d2, rfl, _, h2, c3, d3, rfl, _, h3, h4⟩ := hx
  have h2 : c2 = [.int .u32 (wd gn)] := h2
  have h3 : c3 = [.int .u32 (wd tk)] := h3
  have h4 : d3 = [] := h4
  subst h2 h3 h4
  obtain ⟨A, c, rfl, _⟩ := id h0
  refine ⟨A, key.length, c, key, pl, gn, tk, ?_, rdSl_item h0⟩
  congr 1
  apply Array.ext'
  simpa using e0
theorem open_clm15 {H : Type} {enc : TypeId × Value → H} {W : World} {r : Reach} {base : Nat} {v : Value} {d : DataW H} {ps : List MemPlace} (hval : Value.okWide Tryd.prog W r base 27 v)
    (h : DataW.Trod enc Tryd.prog W 0 (fun _ => true) true 27 v d ps) (hlt : ∀ x ∈ ps, x.block < W.heap.size) : ∃ c : Clm, v = .agg (clmCells c) ∧ c.n.length ≤ maxLen := by
  obtain ⟨cs, x, rfl, hx⟩ := open_argRec Tryd.underlying27 opens_clm hval h hlt
  obtain ⟨c, e, hn⟩ := clm_at hx
  refine ⟨c, ?_, hn⟩
  congr 1
  apply Array.ext'
  exact e
end Go.Proofs.YtcheflcfoiclgaaDoor
