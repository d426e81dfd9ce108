/- Merged: LabelSpec LabelRef Low RepSpec RepPrg RepRef Reps. -/
import Derived.Test.YtbhmgnhiglpmhaaDoorMSeal0
import Derived.Test.YtbhmgnhiglpmhaaDoorMGen0
import Derived.Test.YtbhmgnhiglpmhaaDoorMGen1
/- A label as plain data: its bytes, what bytes tell, which is later, the bits of numbers. No program is named here. -/
set_option maxRecDepth 4000
namespace Go.Proofs.YtbhmgnhiglpmhaaDoor
def le (v : BitVec 32) (n : Nat) : List (BitVec 8) := (List.range n).map fun i => (v >>> (8 * i)).setWidth 8
theorem length_le (v : BitVec 32) (n : Nat) : (le v n).length = n := by simp [le]
theorem le_succ (v : BitVec 32) (n : Nat) : le v (n + 1) = le v n ++ [(v >>> (8 * n)).setWidth 8] := by simp [le, List.range_succ]
end Go.Proofs.YtbhmgnhiglpmhaaDoor

/- The document's numbers as bytes, the lowest first, and back. -/
set_option maxRecDepth 4000
namespace Go.Proofs.YtbhmgnhiglpmhaaDoor
open Go Go.RowKit
attribute [local go_sem] low_wd low8_wd low16_wd low24_wd shl8_wd conv_bd add_wd
theorem bytesV_snoc (q : List (BitVec 8)) (x : BitVec 8) : bytesV (q ++ [x]) = bytesV q ++ bytesV [x] := by simp [bytesV]
set_option maxHeartbeats 800000 in
theorem refput_any (v : BitVec 32) (n : Nat) (w : World) (hn : n ≤ 4) :
    Calls Tryd.prog 47 #[.int .u32 (wd v), .int .i64 (n : Int)] w fun e w' => ∃ u, e = .returned u ∧ w'.ownsRow w.heap.size 5 1 u n (bytesV (le v n)) ∧ Below w.heap.size w w' := by
  have HS : Hid (∀ k, le v (k + 1) = le v k ++ [(v >>> (8 * k)).setWidth 8]) := Lib.hid (le_succ v)
  obtain ⟨L, hL⟩ : ∃ L, le v = L := ⟨_, rfl⟩
  have HL0 : Hid (L 0 = []) := Lib.hid (by rw [← hL]; rfl)
  rw [hL] at HS ⊢
  clear hL
  go_enter Tryd.func47, Tryd.ntmps47
  go_wp2_with fail
  go_loopw [5, 6] (fun s i wr => ∃ k : Nat, k ≤ n ∧ i = .int .i64 k ∧ wr.ownsRow w.heap.size 5 1 s k (bytesV (L k)) ∧ Below w.heap.size w wr) (fun _ i _ => n - (intOf i).toNat)
  case atStart => exact ⟨0, by omega, rfl, by rw [HL0.out]; exact World.ownsRow_nil _ _ _ _, Below.refl _ _⟩
  case round =>
    obtain ⟨k, hk, rfl, hO, hB⟩ := hrel
    obtain ⟨A, c, rfl, _⟩ := own_slice_form hO
    by_cases hlt : k < n
    · have hs := HS.out k
      have HB := Lib.hid hB
      have hlt' : (k : Int) < (n : Int) := by omega
      obtain ⟨x, hx⟩ : ∃ x, (v >>> (8 * k)).setWidth 8 = x := ⟨_, rfl⟩
      rw [hx] at hs
      have HSS := Lib.hid hs
      have HO := Lib.hid (hO.alloc (.cells #[.int .u8 (bd x)] 5))
      have HR : Hid (Slice (wr.alloc (.cells #[.int .u8 (bd x)] 5)) (.slice (some ⟨wr.heap.size, 0, none⟩) 1 1) [x]) := Lib.hid (row_slice (Row.fresh wr 5 (bs [x])) (c := 1) (Nat.le_refl _))
      have HB2 := Lib.hid (hB.alloc hB.size (.cells #[.int .u8 (bd x)] 5))
      clear hO hB hs
      rcases k with _ | _ | _ | _ | k
      · subst hx
        go_wp2_with (at_builtin; refine wpList_append_slice rfl (.tmp 12) (.tmp 19) rfl w.heap.size _ _ _ rfl HO.out (some ⟨wr.heap.size, 0, none⟩) 1 1 _ rfl HR.out (fun h => by cases h) (by omega) HB2.out.size ?_; intro v6 w6 own6 hb6; have HO6 := Lib.hid own6; have HB6 := Lib.hid (HB2.out.trans hb6); clear own6 hb6)
        exact ⟨⟨1, by omega, rfl, by rw [HSS.out, bytesV_snoc]; exact HO6.out, HB6.out⟩, by simp [intOf] <;> omega⟩
      · subst hx
        go_wp2_with (at_builtin; refine wpList_append_slice rfl (.tmp 12) (.tmp 19) rfl w.heap.size _ _ _ rfl HO.out (some ⟨wr.heap.size, 0, none⟩) 1 1 _ rfl HR.out (fun h => by cases h) (by omega) HB2.out.size ?_; intro v6 w6 own6 hb6; have HO6 := Lib.hid own6; have HB6 := Lib.hid (HB2.out.trans hb6); clear own6 hb6)
        exact ⟨⟨2, by omega, rfl, by rw [HSS.out, bytesV_snoc]; exact HO6.out, HB6.out⟩, by simp [intOf] <;> omega⟩
      · subst hx
        go_wp2_with (at_builtin; refine wpList_append_slice rfl (.tmp 12) (.tmp 19) rfl w.heap.size _ _ _ rfl HO.out (some ⟨wr.heap.size, 0, none⟩) 1 1 _ rfl HR.out (fun h => by cases h) (by omega) HB2.out.size ?_; intro v6 w6 own6 hb6; have HO6 := Lib.hid own6; have HB6 := Lib.hid (HB2.out.trans hb6); clear own6 hb6)
        exact ⟨⟨3, by omega, rfl, by rw [HSS.out, bytesV_snoc]; exact HO6.out, HB6.out⟩, by simp [intOf] <;> omega⟩
      · subst hx
        go_wp2_with (at_builtin; refine wpList_append_slice rfl (.tmp 12) (.tmp 19) rfl w.heap.size _ _ _ rfl HO.out (some ⟨wr.heap.size, 0, none⟩) 1 1 _ rfl HR.out (fun h => by cases h) (by omega) HB2.out.size ?_; intro v6 w6 own6 hb6; have HO6 := Lib.hid own6; have HB6 := Lib.hid (HB2.out.trans hb6); clear own6 hb6)
        exact ⟨⟨4, by omega, rfl, by rw [HSS.out, bytesV_snoc]; exact HO6.out, HB6.out⟩, by simp [intOf] <;> omega⟩
      · omega
    · obtain rfl : k = n := by omega
      have HO := Lib.hid hO
      have HB := Lib.hid hB
      clear hO hB
      go_wp2_with fail
      go_ret
      exact ⟨_, rfl, HO.out, HB.out⟩
end Go.Proofs.YtbhmgnhiglpmhaaDoor

/- Numbers as bytes, the lowest first, as the program's lowfirst appends and reads them. -/
set_option maxRecDepth 4000
namespace Go.Proofs.YtbhmgnhiglpmhaaDoor
open Go Go.RowKit
theorem bytesV_apps (p q : List (BitVec 8)) : bytesV (p ++ q) = bytesV p ++ bytesV q := by simp [bytesV]
def two (n : BitVec 16) : List (BitVec 8) := [n.setWidth 8, (n >>> 8).setWidth 8]
def four (v : BitVec 32) : List (BitVec 8) := two (v.setWidth 16) ++ two ((v >>> 16).setWidth 16)
theorem lw16 (x : BitVec 32) : IntKind.u16.wrap (wd x) = hd (x.setWidth 16) := by
  rw [IntKind.wrap_u16]; unfold wd hd; have := x.isLt; rw [BitVec.toNat_setWidth]; omega
theorem lwh (x : BitVec 16) : IntKind.u32.wrap (hd x) = wd (x.setWidth 32) := by
  rw [IntKind.wrap_u32]; unfold wd hd; have := x.isLt; rw [BitVec.toNat_setWidth]; omega
theorem lsh16 (x : BitVec 32) : IntKind.u16.wrap (wd x / (65536 : Int)) = hd ((x >>> 16).setWidth 16) := by rw [show wd x / (65536 : Int) = wd (x >>> 16) from shr_wd x 16, lw16]
attribute [local go_sem] lowb_hd lowb8_hd convb_hd shl8_hd or_hd lw16 lsh16 lwh or_wd shl16_wd
set_option maxHeartbeats 400000 in
theorem appshort_any (base : Nat) (q : List (BitVec 8)) (n : BitVec 16) (v : Value) (w : World) (h : w.ownsRow base 5 1 v q.length (bytesV q)) (hb : base ≤ w.heap.size) (hl : q.length ≤ 1000) :
    Calls Tryd.prog 44 #[v, .int .u16 (hd n)] w fun e w' => ∃ v', e = .returned v' ∧ w'.ownsRow base 5 1 v' (q.length + 2) (bytesV (q ++ two n)) ∧ Below base w w' := by
  obtain ⟨m, hm⟩ : ∃ m, q.length = m := ⟨_, rfl⟩
  rw [hm] at h hl ⊢
  clear hm
  obtain ⟨C, hC⟩ : ∃ C, (#[.int .u8 (bd (n.setWidth 8)), .int .u8 (bd ((n >>> 8).setWidth 8))] : Array Value) = C := ⟨_, rfl⟩
  have HR4 : Hid (Slice (w.alloc (.cells #[.int .u8 (bd (n.setWidth 8)), .int .u8 (bd ((n >>> 8).setWidth 8))] 5)) (.slice (some ⟨w.heap.size, 0, none⟩) 2 2) (two n)) := Lib.hid (row_slice (Row.fresh w 5 (bs (two n))) (c := 2) (Nat.le_refl _))
  have HO4 := Lib.hid (h.alloc (.cells #[.int .u8 (bd (n.setWidth 8)), .int .u8 (bd ((n >>> 8).setWidth 8))] 5))
  have HB2 := Lib.hid ((Below.refl base w).alloc hb (.cells #[.int .u8 (bd (n.setWidth 8)), .int .u8 (bd ((n >>> 8).setWidth 8))] 5))
  have HB4 := Lib.hid (Nat.le_trans hb HB2.out.size)
  clear h hb hC
  go_enter Tryd.func44, Tryd.ntmps44
  go_wp2_with (at_builtin; refine wpList_append_slice rfl (.tmp 5) (.tmp 11) rfl base _ m _ rfl HO4.out (some ⟨w.heap.size, 0, none⟩) 2 2 _ rfl HR4.out (fun h => by cases h) (by omega) HB4.out ?_; intro v6 w6 own6 hb6; rw [← bytesV_apps] at own6; have HO6 := Lib.hid own6; have HB6 := Lib.hid (HB2.out.trans hb6); clear own6 hb6)
  go_ret
  exact ⟨_, rfl, HO6.out, HB6.out⟩
set_option maxHeartbeats 400000 in
theorem applong_any (base : Nat) (q : List (BitVec 8)) (n : BitVec 32) (v : Value) (w : World) (h : w.ownsRow base 5 1 v q.length (bytesV q)) (hb : base ≤ w.heap.size) (hl : q.length ≤ 900) :
    Calls Tryd.prog 43 #[v, .int .u32 (wd n)] w fun e w' => ∃ v', e = .returned v' ∧ w'.ownsRow base 5 1 v' (q.length + 4) (bytesV (q ++ four n)) ∧ Below base w w' := by
  have C1 := appshort_any base q (n.setWidth 16) v w h hb (by omega)
  have HB := Lib.hid hb
  have HL := Lib.hid hl
  clear h hb hl
  go_enter Tryd.func43, Tryd.ntmps43
  go_wp2_with fail
  refine C1.mono ?_
  rintro e w1 ⟨v1, rfl, h1, b1⟩
  clear C1
  have C2 := appshort_any base (q ++ two (n.setWidth 16)) ((n >>> 16).setWidth 16) v1 w1 (by rw [List.length_append]; exact h1) (Nat.le_trans HB.out b1.size) (by rw [List.length_append]; have := HL.out; show q.length + 2 ≤ 1000; omega)
  have B1 := Lib.hid b1
  clear h1 b1
  go_wp2_with fail
  refine C2.mono ?_
  rintro e w2 ⟨v2, rfl, h2, b2⟩
  clear C2
  rw [List.append_assoc, List.length_append] at h2
  have H2 := Lib.hid h2
  have B2 := Lib.hid (B1.out.trans b2)
  clear h2 b2
  go_wp2_with fail
  go_ret
  exact ⟨_, rfl, H2.out, B2.out⟩
theorem le4 (v : BitVec 32) : le v 4 = [(v.setWidth 16).setWidth 8, ((v.setWidth 16) >>> 8).setWidth 8, ((v >>> 16).setWidth 16).setWidth 8, (((v >>> 16).setWidth 16) >>> 8).setWidth 8] := by
  have e : le v 4 = [(v >>> (8 * 0)).setWidth 8, (v >>> (8 * 1)).setWidth 8, (v >>> (8 * 2)).setWidth 8, (v >>> (8 * 3)).setWidth 8] := rfl
  rw [e]
  have := v.isLt
  have h0 : (v >>> (8 * 0)).setWidth 8 = (v.setWidth 16).setWidth 8 := BitVec.eq_of_toNat_eq (by simp only [BitVec.toNat_setWidth, BitVec.toNat_ushiftRight, Nat.shiftRight_eq_div_pow]; omega)
  have h1 : (v >>> (8 * 1)).setWidth 8 = ((v.setWidth 16) >>> 8).setWidth 8 := BitVec.eq_of_toNat_eq (by simp only [BitVec.toNat_setWidth, BitVec.toNat_ushiftRight, Nat.shiftRight_eq_div_pow]; omega)
  have h2 : (v >>> (8 * 2)).setWidth 8 = ((v >>> 16).setWidth 16).setWidth 8 := BitVec.eq_of_toNat_eq (by simp only [BitVec.toNat_setWidth, BitVec.toNat_ushiftRight, Nat.shiftRight_eq_div_pow]; omega)
  have h3 : (v >>> (8 * 3)).setWidth 8 = (((v >>> 16).setWidth 16) >>> 8).setWidth 8 := BitVec.eq_of_toNat_eq (by simp only [BitVec.toNat_setWidth, BitVec.toNat_ushiftRight, Nat.shiftRight_eq_div_pow]; omega)
  rw [h0, h1, h2, h3]
theorem four_le (v : BitVec 32) : four v = le v 4 := by rw [le4]; rfl
end Go.Proofs.YtbhmgnhiglpmhaaDoor

/- Replies: what they are, their bytes, plainly. No function of the program is named here. -/
set_option maxRecDepth 4000
namespace Go.Proofs.YtbhmgnhiglpmhaaDoor
open Go Go.RowKit
def byteZ (z : Int) : BitVec 8 := BitVec.ofInt 8 z
def wordZ (z : Int) : BitVec 32 := BitVec.ofInt 32 z
def mayR (i e : Int) (n : Nat) : Bool := decide (0 ≤ i) && decide (i ≤ 2147483647) && decide (0 ≤ e) && decide (e ≤ 255) && decide (n ≤ 255)
def repH (i e : Int) (d : List (BitVec 8)) : List (BitVec 8) := four (wordZ i) ++ [byteZ e, byteZ d.length] ++ d
def repB (i e : Int) (d : List (BitVec 8)) : List (BitVec 8) := repH i e d ++ two (crcOf (repH i e d))
def repCells (i e : Int) (u : Value) : Array Value := #[.int .i64 i, .int .i64 e, u]
theorem length_repH (i e : Int) (d : List (BitVec 8)) : (repH i e d).length = 6 + d.length := by unfold repH four two; simp; omega
theorem length_repB (i e : Int) (d : List (BitVec 8)) : (repB i e d).length = 8 + d.length := by unfold repB; rw [List.length_append, length_repH]; simp [two]; omega
theorem wordZ_wrap (z : Int) : IntKind.u32.wrap z = wd (wordZ z) := by
  rw [IntKind.wrap_u32']; unfold wd wordZ; rw [BitVec.toNat_ofInt]; omega
theorem mayR_of {i e : Int} {n : Nat} (h : mayR i e n = true) : 0 ≤ i ∧ i ≤ 2147483647 ∧ 0 ≤ e ∧ e ≤ 255 ∧ n ≤ 255 := by
  unfold mayR at h
  simp only [Bool.and_eq_true, decide_eq_true_eq] at h
  exact ⟨h.1.1.1.1, h.1.1.1.2, h.1.1.2, h.1.2, h.2⟩
theorem mayR_no {i e : Int} {n : Nat} (h : mayR i e n = false) : ¬ (0 ≤ i ∧ i ≤ 2147483647 ∧ 0 ≤ e ∧ e ≤ 255 ∧ n ≤ 255) := fun ⟨h1, h2, h3, h4, h5⟩ => by
  unfold mayR at h
  rw [decide_eq_true h1, decide_eq_true h2, decide_eq_true h3, decide_eq_true h4, decide_eq_true h5] at h
  cases h
end Go.Proofs.YtbhmgnhiglpmhaaDoor

/- The program's reply: may there be such a reply; its bytes. -/
set_option maxRecDepth 4000
namespace Go.Proofs.YtbhmgnhiglpmhaaDoor
open Go Go.RowKit
theorem size_rep : (Tryd.prog.info? 38).map (·.size) = some 3 := by kernel_rfl
set_option maxHeartbeats 1600000 in
theorem mayr_any (i e : Int) (A : Option Addr) (n c : Nat) (w : World) : Calls Tryd.prog 42 #[.agg (repCells i e (.slice A n c))] w fun x w' => x = .returned (.bool (mayR i e n)) ∧ Below w.heap.size w w' := by
  have HY := Lib.hid (@mayR_of i e n)
  have HN := Lib.hid (@mayR_no i e n)
  obtain ⟨G, hG⟩ : ∃ G, mayR i e n = G := ⟨_, rfl⟩
  rw [hG] at HY HN ⊢
  clear hG
  have HS := St.nil w noF
  go_enter Tryd.func42, Tryd.ntmps42
  go_upto_region 1 with (first | ((with_reducible refine wpList_plain ?_ ?_); exact rfl; intro KK hKK; refine wp_st_box HS 38 (.tmp 0) rfl _ rfl (repCells i e (.slice A n c)) (rfl) (fun g1 W1 HSx => hKK _ _ ?_); clear hKK KK HS; have HS : St w noF [⟨g1, 38, repCells i e (.slice A n c)⟩] W1 := HSx; clear HSx))
  have c0 : W1.cell? ⟨g1, 0, none⟩ = some (.int .i64 i) := (HS.row 0 rfl).get rfl
  have c1 : W1.cell? ⟨g1, 1, none⟩ = some (.int .i64 e) := (HS.row 0 rfl).get rfl
  have c2 : W1.cell? ⟨g1, 2, none⟩ = some (.slice A n c) := (HS.row 0 rfl).get rfl
  have HB := Lib.hid HS.below
  clear HS
  by_cases h0 : i < 0
  · have d0 : decide (0 ≤ i) = false := decide_eq_false (by omega)
    have hG : G = false := by cases G with | false => rfl | true => (have := HY.out rfl; omega)
    go_wp2_with fail
    go_ret
    first | exact ⟨rfl, HB.out⟩ | (rw [hG]; exact ⟨rfl, HB.out⟩)
  have d0 : decide (0 ≤ i) = true := decide_eq_true (by omega)
  by_cases h1 : 2147483647 < i
  · have d1 : decide (i ≤ 2147483647) = false := decide_eq_false (by omega)
    have hG : G = false := by cases G with | false => rfl | true => (have := HY.out rfl; omega)
    go_wp2_with fail
    go_ret
    first | exact ⟨rfl, HB.out⟩ | (rw [hG]; exact ⟨rfl, HB.out⟩)
  have d1 : decide (i ≤ 2147483647) = true := decide_eq_true (by omega)
  by_cases h2 : e < 0
  · have d2 : decide (0 ≤ e) = false := decide_eq_false (by omega)
    have hG : G = false := by cases G with | false => rfl | true => (have := HY.out rfl; omega)
    go_wp2_with fail
    go_ret
    first | exact ⟨rfl, HB.out⟩ | (rw [hG]; exact ⟨rfl, HB.out⟩)
  have d2 : decide (0 ≤ e) = true := decide_eq_true (by omega)
  by_cases h3 : 255 < e
  · have d3 : decide (e ≤ 255) = false := decide_eq_false (by omega)
    have hG : G = false := by cases G with | false => rfl | true => (have := HY.out rfl; omega)
    go_wp2_with fail
    go_ret
    first | exact ⟨rfl, HB.out⟩ | (rw [hG]; exact ⟨rfl, HB.out⟩)
  have d3 : decide (e ≤ 255) = true := decide_eq_true (by omega)
  by_cases h4 : 255 < n
  · have d4 : decide ((n : Int) ≤ 255) = false := decide_eq_false (by omega)
    have d4' : ¬ n ≤ 255 := by omega
    have hG : G = false := by cases G with | false => rfl | true => (have := HY.out rfl; omega)
    go_wp2_with fail
    go_ret
    first | exact ⟨rfl, HB.out⟩ | (rw [hG]; exact ⟨rfl, HB.out⟩)
  have d4 : decide ((n : Int) ≤ 255) = true := decide_eq_true (by omega)
  have d4' : n ≤ 255 := by omega
  have hG : G = true := by cases G with | true => rfl | false => exact (HN.out rfl ⟨by omega, by omega, by omega, by omega, by omega⟩).elim
  go_wp2_with fail
  go_ret
  first | exact ⟨rfl, HB.out⟩ | (rw [hG]; exact ⟨rfl, HB.out⟩)
set_option maxHeartbeats 800000 in
theorem repenc_bad (i e : Int) (A : Option Addr) (n c : Nat) (w : World) (hc : mayR i e n = false) : Calls Tryd.prog 29 #[.agg (repCells i e (.slice A n c))] w fun x w' => x = .returned (.tuple #[.slice none 0 0, .int .i64 11]) ∧ Below w.heap.size w w' := by
  have C := Lib.hid (fun W => mayr_any i e A n c W)
  rw [hc] at C
  clear hc
  have HS := St.nil w noF
  go_enter Tryd.func29, Tryd.ntmps29
  go_upto_region 1 with (first | ((with_reducible refine wpList_plain ?_ ?_); exact rfl; intro KK hKK; refine wp_st_box HS 38 (.tmp 0) rfl _ rfl (repCells i e (.slice A n c)) (rfl) (fun g1 W1 HSx => hKK _ _ ?_); clear hKK KK HS; have HS : St w noF [⟨g1, 38, repCells i e (.slice A n c)⟩] W1 := HSx; clear HSx))
  go_wp2_with (first | ((with_reducible refine wpList_plain ?_ ?_); exact rfl; intro KK hKK; refine wp_st_load HS 0 0 38 (.tmp 1) rfl rfl rfl (repCells i e (.slice A n c)) (slab_whole _) _ Tryd.underlying38 rfl (by exact size_rep) (hKK _ _ ?_); clear hKK KK))
  refine (C.out _).mono ?_
  rintro x w1 ⟨rfl, hb⟩
  have HSx := HS.same hb
  clear HS hb C
  go_wp2_with fail
  go_ret2
  exact ⟨rfl, HSx.below⟩
set_option maxHeartbeats 1600000 in
theorem repenc_good (i e : Int) (A : Option Addr) (n c : Nat) (d : List (BitVec 8)) (hd : d.length = n) (w : World) (hs : Slice w (.slice A n c) d) (hA : A = none → c = 0) (hc : mayR i e n = true) :
    Calls Tryd.prog 29 #[.agg (repCells i e (.slice A n c))] w fun x w' => ∃ v, x = .returned (.tuple #[v, .int .i64 0]) ∧ w'.ownsRow w.heap.size 5 1 v (repB i e d).length (bytesV (repB i e d)) ∧ Below w.heap.size w w' := by
  have C := Lib.hid (fun W => mayr_any i e A n c W)
  rw [hc] at C
  obtain ⟨_, _, _, _, hn⟩ := mayR_of hc
  have HN := Lib.hid hn
  have HD := Lib.hid hd
  have HSL := Lib.hid hs
  have HA := Lib.hid hA
  clear hc hd hs hA hn
  have HS := St.nil w noF
  go_enter Tryd.func29, Tryd.ntmps29
  go_upto_region 1 with (first | ((with_reducible refine wpList_plain ?_ ?_); exact rfl; intro KK hKK; refine wp_st_box HS 38 (.tmp 0) rfl _ rfl (repCells i e (.slice A n c)) (rfl) (fun g1 W1 HSx => hKK _ _ ?_); clear hKK KK HS; have HS : St w noF [⟨g1, 38, repCells i e (.slice A n c)⟩] W1 := HSx; clear HSx))
  go_wp2_with (first | ((with_reducible refine wpList_plain ?_ ?_); exact rfl; intro KK hKK; refine wp_st_load HS 0 0 38 (.tmp 1) rfl rfl rfl (repCells i e (.slice A n c)) (slab_whole _) _ Tryd.underlying38 rfl (by exact size_rep) (hKK _ _ ?_); clear hKK KK))
  refine (C.out _).mono ?_
  rintro x w1 ⟨rfl, hb⟩
  have HSW := Lib.hid (HS.same hb)
  clear HS hb C
  obtain ⟨B0, hB0⟩ : ∃ B0, w1.heap.size = B0 := ⟨_, rfl⟩
  have HB0 := Lib.hid hB0
  have c0 : w1.cell? ⟨g1, 0, none⟩ = some (.int .i64 i) := (HSW.out.row 0 rfl).get rfl
  have hw0 := wordZ_wrap i
  have CL := applong_any B0 [] (wordZ i) (.slice none 0 0) w1 (World.ownsRow_nil _ _ _ _) (Nat.le_of_eq hB0.symm) (by decide)
  clear hB0
  go_wp2_with fail
  refine CL.mono ?_
  rintro x w2 ⟨v2, rfl, h2, b2⟩
  have HB2 := Lib.hid b2
  have HO2 : Hid (w2.ownsRow B0 5 1 v2 4 (bytesV (four (wordZ i)))) := Lib.hid h2
  clear CL c0 hw0 h2 b2
  have HS2 := HSW.out.same (by rw [HB0.out]; exact HB2.out)
  have c1 : w2.cell? ⟨g1, 1, none⟩ = some (.int .i64 e) := (HS2.row 0 rfl).get rfl
  have c2 : w2.cell? ⟨g1, 2, none⟩ = some (.slice A n c) := (HS2.row 0 rfl).get rfl
  have hw1 : IntKind.u8.wrap e = bd (byteZ e) := wrap_u8_bd e
  have hw2 : IntKind.u8.wrap (n : Int) = bd (byteZ (n : Int)) := wrap_u8_bd _
  have HP : Hid (Slice (w2.alloc (.cells #[.int .u8 (bd (byteZ e)), .int .u8 (bd (byteZ (n : Int)))] 5)) (.slice (some ⟨w2.heap.size, 0, none⟩) 2 2) [byteZ e, byteZ (n : Int)]) := Lib.hid (row_slice (Row.fresh w2 5 (bs [byteZ e, byteZ (n : Int)])) (c := 2) (Nat.le_refl _))
  have HO := Lib.hid (HO2.out.alloc (.cells #[.int .u8 (bd (byteZ e)), .int .u8 (bd (byteZ (n : Int)))] 5))
  have HB3 := Lib.hid (HB2.out.alloc (by rw [← HB0.out]; exact HB2.out.size) (.cells #[.int .u8 (bd (byteZ e)), .int .u8 (bd (byteZ (n : Int)))] 5))
  clear HS2 HO2
  go_upto_region 5 with (at_builtin; refine wpList_append_slice rfl (.tmp 12) (.tmp 20) rfl B0 _ 4 _ rfl HO.out (some ⟨w2.heap.size, 0, none⟩) 2 2 _ rfl HP.out (fun h => by cases h) (by decide) (Nat.le_trans (Nat.le_of_eq HB0.out.symm) HB3.out.size) ?_; intro v4 w4 own4 hb4; rw [← bytesV_apps] at own4; have HO4 := Lib.hid own4; have HB4 := Lib.hid (HB3.out.trans hb4); clear own4 hb4 HO HP HB3 c1 c2 hw1 hw2)
  have HS4 := HSW.out.same (by rw [HB0.out]; exact HB4.out)
  have c2 : w4.cell? ⟨g1, 2, none⟩ = some (.slice A n c) := (HS4.row 0 rfl).get rfl
  have hsl := HSL.out.below HS4.below (Nat.le_refl _)
  have hn9 := HN.out
  clear HS4 HB2
  go_upto_region 6 with (at_builtin; refine wpList_append_slice rfl (.tmp 22) (.tmp 24) rfl B0 _ 6 _ rfl HO4.out A n c d rfl hsl HA.out (by omega) (Nat.le_trans (Nat.le_of_eq HB0.out.symm) HB4.out.size) ?_; intro v5 w5 own5 hb5; rw [← bytesV_apps] at own5; have HO5 := Lib.hid own5; have HB5 := Lib.hid (HB4.out.trans hb5); clear own5 hb5 HO4 HB4 c2 hsl)
  have HEQ : Hid (four (wordZ i) ++ [byteZ e, byteZ (n : Int)] ++ d = repH i e d) := Lib.hid (by unfold repH; rw [HD.out])
  have hLH : (repH i e d).length = 6 + n := by rw [length_repH, HD.out]
  have own5 := HO5.out
  rw [HEQ.out, ← hLH] at own5
  have hs5 := own_slice own5
  obtain ⟨A5, c5, rfl, hc5⟩ := own_slice_form own5
  rw [hLH] at hs5 hc5 own5 ⊢
  have hb6 := HB5.out.alloc (by rw [← HB0.out]; exact HB5.out.size) (.cells #[.slice A5 (6 + n) c5] 35)
  have own6 := own5.alloc (.cells #[.slice A5 (6 + n) c5] 35)
  have CK := check_any [repH i e d] _ _ (parts1 hs5) (by simp [maxLen]) (by simp [hLH, maxLen]; omega)
  rw [List.flatten_cons, List.flatten_nil, List.append_nil] at CK
  obtain ⟨w6, hw6⟩ : ∃ w6, w5.alloc (.cells #[.slice A5 (6 + n) c5] 35) = w6 := ⟨_, rfl⟩
  rw [hw6] at hb6 own6 CK
  clear hs5 HO5 HEQ own5
  obtain ⟨K, hK⟩ : ∃ K, crcOf (repH i e d) = K := ⟨_, rfl⟩
  rw [hK] at CK
  have CS := appshort_any B0 (repH i e d) K _ w6 (by rw [hLH]; exact own6) (Nat.le_trans (Nat.le_of_eq HB0.out.symm) hb6.size) (by rw [hLH]; omega)
  have HB6 := Lib.hid hb6
  have HKB : Hid (repH i e d ++ two K = repB i e d) := Lib.hid (by unfold repB; rw [hK])
  have HLB := Lib.hid (length_repB i e d)
  have HLH := Lib.hid hLH
  clear hb6 own6 hK hLH hn9
  go_wp2_with fail
  refine CK.mono ?_
  rintro x w7 ⟨rfl, rfl⟩
  clear CK
  go_wp2_with fail
  refine CS.mono ?_
  rintro x w8 ⟨v8, rfl, h8, b8⟩
  rw [HKB.out, HLH.out] at h8
  have HO8 := Lib.hid h8
  have HB8 := Lib.hid (HB6.out.trans b8)
  clear CS h8 b8
  go_wp2_with fail
  go_ret2
  have hz : w.heap.size ≤ B0 := by rw [← HB0.out]; exact HSW.out.below.size
  refine ⟨_, rfl, ?_, HSW.out.below.trans (HB8.out.mono hz)⟩
  rw [HLB.out, HD.out]
  exact own_base (by rw [show 8 + n = 6 + n + 2 by omega]; exact HO8.out) hz
end Go.Proofs.YtbhmgnhiglpmhaaDoor

/- The document's reply: its bytes. -/
set_option maxRecDepth 4000
namespace Go.Proofs.YtbhmgnhiglpmhaaDoor
open Go Go.RowKit
set_option maxHeartbeats 800000 in
theorem refrep_bad (i e : Int) (A : Option Addr) (n c : Nat) (w : World) (hc : mayR i e n = false) : Calls Tryd.prog 31 #[.agg (repCells i e (.slice A n c))] w fun x w' => x = .returned (.tuple #[.slice none 0 0, .int .i64 11]) ∧ Below w.heap.size w w' := by
  have HNO := Lib.hid (mayR_no hc)
  clear hc
  have HS := St.nil w noF
  go_enter Tryd.func31, Tryd.ntmps31
  go_upto_region 1 with (first | ((with_reducible refine wpList_plain ?_ ?_); exact rfl; intro KK hKK; refine wp_st_box HS 38 (.tmp 0) rfl _ rfl (repCells i e (.slice A n c)) (rfl) (fun g1 W1 HSx => hKK _ _ ?_); clear hKK KK HS; have HS : St w noF [⟨g1, 38, repCells i e (.slice A n c)⟩] W1 := HSx; clear HSx))
  have c0 : W1.cell? ⟨g1, 0, none⟩ = some (.int .i64 i) := (HS.row 0 rfl).get rfl
  have c1 : W1.cell? ⟨g1, 1, none⟩ = some (.int .i64 e) := (HS.row 0 rfl).get rfl
  have c2 : W1.cell? ⟨g1, 2, none⟩ = some (.slice A n c) := (HS.row 0 rfl).get rfl
  have HB := Lib.hid HS.below
  clear HS
  by_cases h0 : i < 0
  · go_wp2_with fail
    go_ret2
    exact ⟨rfl, HB.out⟩
  by_cases h1 : (2147483648 : Int) ≤ i
  · go_wp2_with fail
    go_ret2
    exact ⟨rfl, HB.out⟩
  by_cases h2 : e < 0
  · go_wp2_with fail
    go_ret2
    exact ⟨rfl, HB.out⟩
  by_cases h3 : 255 < e
  · go_wp2_with fail
    go_ret2
    exact ⟨rfl, HB.out⟩
  by_cases h4 : 255 < n
  · have h4i : (255 : Int) < (n : Int) := by omega
    go_wp2_with fail
    go_ret2
    exact ⟨rfl, HB.out⟩
  exact (HNO.out ⟨by omega, by omega, by omega, by omega, by omega⟩).elim
set_option maxHeartbeats 1600000 in
theorem refrep_good (i e : Int) (A : Option Addr) (n c : Nat) (d : List (BitVec 8)) (hd : d.length = n) (w : World) (hs : Slice w (.slice A n c) d) (hA : A = none → c = 0) (hc : mayR i e n = true) :
    Calls Tryd.prog 31 #[.agg (repCells i e (.slice A n c))] w fun x w' => ∃ v, x = .returned (.tuple #[v, .int .i64 0]) ∧ w'.ownsRow w.heap.size 5 1 v (repB i e d).length (bytesV (repB i e d)) ∧ Below w.heap.size w w' := by
  obtain ⟨m0, m1, m2, m3, hn⟩ := mayR_of hc
  have h0 : ¬ i < 0 := by omega
  have h1 : ¬ (2147483648 : Int) ≤ i := by omega
  have h2 : ¬ e < 0 := by omega
  have h3 : ¬ 255 < e := by omega
  have h4 : ¬ 255 < n := by omega
  have h4i : ¬ (255 : Int) < (n : Int) := by omega
  have HN := Lib.hid hn
  have HD := Lib.hid hd
  have HSL := Lib.hid hs
  have HA := Lib.hid hA
  clear hc hd hs hA hn m0 m1 m2 m3
  have HS := St.nil w noF
  go_enter Tryd.func31, Tryd.ntmps31
  go_upto_region 1 with (first | ((with_reducible refine wpList_plain ?_ ?_); exact rfl; intro KK hKK; refine wp_st_box HS 38 (.tmp 0) rfl _ rfl (repCells i e (.slice A n c)) (rfl) (fun g1 W1 HSx => hKK _ _ ?_); clear hKK KK HS; have HS : St w noF [⟨g1, 38, repCells i e (.slice A n c)⟩] W1 := HSx; clear HSx))
  have HS := HS
  have c0 : W1.cell? ⟨g1, 0, none⟩ = some (.int .i64 i) := (HS.row 0 rfl).get rfl
  have c1 : W1.cell? ⟨g1, 1, none⟩ = some (.int .i64 e) := (HS.row 0 rfl).get rfl
  have c2 : W1.cell? ⟨g1, 2, none⟩ = some (.slice A n c) := (HS.row 0 rfl).get rfl
  have HSW := Lib.hid HS
  clear HS
  go_upto_region 3 with fail
  clear c0 c1 c2 h0 h1 h2 h3 h4 h4i
  obtain ⟨B0, hB0⟩ : ∃ B0, W1.heap.size = B0 := ⟨_, rfl⟩
  have HB0 := Lib.hid hB0
  have hF0 : Wl [fun W => Below B0 W1 W, fun W => Below B0 W1 W] 0 W1.drew := (Below.refl _ _).drew
  clear hB0
  refine wp_region_phs [is (.pointer (some ⟨g1, 0, none⟩)), is (.int .i64 i), is (.int .u32 (wd (wordZ i))), (fun v W => W.ownsRow B0 5 1 v 4 (bytesV (le (wordZ i) 4))), is (.pointer (some ⟨g1, 1, none⟩)), is (.int .i64 e), is (.int .u8 (bd (byteZ e))), is (.pointer (some ⟨g1, 2, none⟩)), is (.slice A n c), is (.int .i64 (n : Int)), is (.int .u8 (bd (byteZ (n : Int)))), (fun v W => W.ownsRow B0 5 1 v 2 (bytesV ([byteZ e, byteZ (n : Int)]))), (fun v W => W.ownsRow B0 5 1 v 6 (bytesV (le (wordZ i) 4 ++ [byteZ e, byteZ (n : Int)]))), (fun v W => W.ownsRow B0 5 1 v 6 (bytesV (le (wordZ i) 4 ++ [byteZ e, byteZ (n : Int)])))] [true, true, true, false, true, true, true, true, true, true, true, false, false, false] [(fun W => Below B0 W1 W), (fun W => Below B0 W1 W)] [false, false, false, false, false, false, false, false, false, false, false, false, true, false] [some 0, some 0, some 0, some 0, some 0, some 0, some 0, some 0, some 0, some 0, some 0, some 0, some 0, some 1] [some 29, some 30, some 31, some 32, some 33, some 34, some 35, some 36, some 37, some 38, some 39, some 40, some 41, some 4] 14 1 (fun _ => true) rfl rfl (by kernel_rfl) (by kernel_rfl) (by kernel_rfl) (by kernel_rfl) ?_ ?_ ?_ ?_ ?_ ?_
  · repeat first | exact wok_nil | refine wok_cons (by first | exact fun _ _ h k => h.trans (k.mono (Nat.le_trans (Nat.le_of_eq HB0.out.symm) h.size))) ?_
  · repeat first | exact vok_nil | refine vok_rig (by first | exact fun _ _ _ h => h) ?_ | refine vok_soft (by first | exact fun _ _ _ h _ => h | exact fun _ _ _ h k => owns_call h k) ?_
  · exact hF0
  · repeat first | exact all_end (by decide) | refine all_cons (by first | exact rfl | exact ⟨rfl, fun _ _ h => Or.inl h⟩ | exact ⟨rfl, fun _ _ h => Or.inr ⟨h, rfl⟩⟩) ?_
  · refine allp_mild 0 rfl rfl rfl (fun a x W hout hin hP => ?_) ?_
    · have e1 : a.tmps[1]? = some (.pointer (some ⟨g1, 0, none⟩)) := (hout 1 (by kernel_rfl)).trans rfl
      clear hin hout
      intro K Q hK
      go_simp
      exact hK _ _ ⟨Same.refl _, rfl⟩
    refine allp_mild 0 rfl rfl rfl (fun a x W hout hin hP => ?_) ?_
    · have e29 := hin.is 0 29 (by kernel_rfl) (by decide) (by kernel_rfl) (by kernel_rfl) _ rfl
      have hc : W.cell? ⟨g1, 0, none⟩ = some (.int .i64 i) := ((HSW.out.same (by rw [HB0.out]; exact hP)).row 0 rfl).get rfl
      clear hP
      clear hin hout
      intro K Q hK
      go_simp
      exact hK _ _ ⟨Same.refl _, rfl⟩
    refine allp_mild 0 rfl rfl rfl (fun a x W hout hin hP => ?_) ?_
    · have e30 := hin.is 1 30 (by kernel_rfl) (by decide) (by kernel_rfl) (by kernel_rfl) _ rfl
      have hw := wordZ_wrap i
      clear hin hout
      intro K Q hK
      go_simp
      exact hK _ _ ⟨Same.refl _, rfl⟩
    refine allp_mild 0 rfl rfl rfl (fun a x W hout hin hP => ?_) ?_
    · have e31 := hin.is 2 31 (by kernel_rfl) (by decide) (by kernel_rfl) (by kernel_rfl) _ rfl
      have hlt := Nat.le_trans (Nat.le_of_eq HB0.out.symm) hP.size
      clear hP
      clear hin hout
      intro K Q hK
      go_simp
      refine (refput_any (wordZ i) 4 W (by decide)).mono ?_
      rintro e W' ⟨u, rfl, hO, hb⟩
      exact hK _ _ ⟨hb, own_base hO hlt⟩
    refine allp_mild 0 rfl rfl rfl (fun a x W hout hin hP => ?_) ?_
    · have e1 : a.tmps[1]? = some (.pointer (some ⟨g1, 0, none⟩)) := (hout 1 (by kernel_rfl)).trans rfl
      clear hin hout
      intro K Q hK
      go_simp
      exact hK _ _ ⟨Same.refl _, rfl⟩
    refine allp_mild 0 rfl rfl rfl (fun a x W hout hin hP => ?_) ?_
    · have e33 := hin.is 4 33 (by kernel_rfl) (by decide) (by kernel_rfl) (by kernel_rfl) _ rfl
      have hc : W.cell? ⟨g1, 1, none⟩ = some (.int .i64 e) := ((HSW.out.same (by rw [HB0.out]; exact hP)).row 0 rfl).get rfl
      clear hP
      clear hin hout
      intro K Q hK
      go_simp
      exact hK _ _ ⟨Same.refl _, rfl⟩
    refine allp_mild 0 rfl rfl rfl (fun a x W hout hin hP => ?_) ?_
    · have e34 := hin.is 5 34 (by kernel_rfl) (by decide) (by kernel_rfl) (by kernel_rfl) _ rfl
      have hw : IntKind.u8.wrap e = bd (byteZ e) := wrap_u8_bd e
      clear hin hout
      intro K Q hK
      go_simp
      exact hK _ _ ⟨Same.refl _, rfl⟩
    refine allp_mild 0 rfl rfl rfl (fun a x W hout hin hP => ?_) ?_
    · have e1 : a.tmps[1]? = some (.pointer (some ⟨g1, 0, none⟩)) := (hout 1 (by kernel_rfl)).trans rfl
      clear hin hout
      intro K Q hK
      go_simp
      exact hK _ _ ⟨Same.refl _, rfl⟩
    refine allp_mild 0 rfl rfl rfl (fun a x W hout hin hP => ?_) ?_
    · have e36 := hin.is 7 36 (by kernel_rfl) (by decide) (by kernel_rfl) (by kernel_rfl) _ rfl
      have hc : W.cell? ⟨g1, 2, none⟩ = some (.slice A n c) := ((HSW.out.same (by rw [HB0.out]; exact hP)).row 0 rfl).get rfl
      clear hP
      clear hin hout
      intro K Q hK
      go_simp
      exact hK _ _ ⟨Same.refl _, rfl⟩
    refine allp_mild 0 rfl rfl rfl (fun a x W hout hin hP => ?_) ?_
    · have e37 := hin.is 8 37 (by kernel_rfl) (by decide) (by kernel_rfl) (by kernel_rfl) _ rfl
      clear hin hout
      intro K Q hK
      go_simp
      exact hK _ _ ⟨Same.refl _, rfl⟩
    refine allp_mild 0 rfl rfl rfl (fun a x W hout hin hP => ?_) ?_
    · have e38 := hin.is 9 38 (by kernel_rfl) (by decide) (by kernel_rfl) (by kernel_rfl) _ rfl
      have hw : IntKind.u8.wrap (n : Int) = bd (byteZ (n : Int)) := wrap_u8_bd _
      clear hin hout
      intro K Q hK
      go_simp
      exact hK _ _ ⟨Same.refl _, rfl⟩
    refine allp_mild 0 rfl rfl rfl (fun a x W hout hin hP => ?_) ?_
    · have e35 := hin.is 6 35 (by kernel_rfl) (by decide) (by kernel_rfl) (by kernel_rfl) _ rfl
      have e39 := hin.is 10 39 (by kernel_rfl) (by decide) (by kernel_rfl) (by kernel_rfl) _ rfl
      have hlt := Nat.le_trans (Nat.le_of_eq HB0.out.symm) hP.size
      have ho := own_base (own_litq W [byteZ e, byteZ (n : Int)] (by unfold maxLen; simp)) hlt
      clear hP
      clear hin hout
      intro K Q hK
      go_simp
      exact hK _ _ ⟨Same.alloc _ _, ho⟩
    refine allp_wild 0 rfl rfl rfl (fun a x W hout hin hP => ?_) ?_
    · obtain ⟨v32, e32, hv32⟩ := hin.get 3 32 (by kernel_rfl) (by decide) (by kernel_rfl) (.inr ⟨rfl, by kernel_rfl⟩)
      obtain ⟨v40, e40, hv40⟩ := hin.get 11 40 (by kernel_rfl) (by decide) (by kernel_rfl) (.inr ⟨rfl, by kernel_rfl⟩)
      have hO8 := hv32
      have hlt := Nat.le_trans (Nat.le_of_eq HB0.out.symm) hP.size
      obtain ⟨A4, c4, rfl, hS5, hA4, _⟩ := own_item (q := [byteZ e, byteZ (n : Int)]) hv40 (by unfold maxLen; simp)
      clear hin hout
      intro K Q hK
      refine wp_append_slice (.tmp 32) (.tmp 40) rfl B0 _ 4 _ (eval_of_get e32) hO8 A4 2 c4 [byteZ e, byteZ (n : Int)] (eval_of_get e40) hS5 hA4 (by decide) hlt ?_
      intro v' W' hO' hb'
      rw [← bytesV_apps] at hO'
      exact hK _ _ ⟨hP.trans hb', hO'⟩
    refine allp_mild 1 rfl rfl rfl (fun a x W hout hin hP => ?_) ?_
    · obtain ⟨v41, e41, hv41⟩ := hin.get 12 41 (by kernel_rfl) (by decide) (by kernel_rfl) (.inr ⟨rfl, by kernel_rfl⟩)
      exact does_assign rfl e41 ⟨Same.refl _, hv41⟩
    exact all_end (by decide)
  · intro x W hP hV
    have hO := hV 13 (by decide) (.inr (by kernel_rfl))
    obtain ⟨v4, hv4⟩ : ∃ v4, x 13 = v4 := ⟨_, rfl⟩
    have HO4 : Hid (W.ownsRow B0 5 1 v4 6 (bytesV (le (wordZ i) 4 ++ [byteZ e, byteZ (n : Int)]))) := Lib.hid (by rw [← hv4]; exact hO)
    have HB4 : Hid (Below B0 W1 W) := Lib.hid hP
    clear hV hP hO
    simp only [putL, Act.put, List.setIfInBounds_toArray, List.set_cons_succ, List.set_cons_zero, hv4]
    simp only [Nat.zero_add, Nat.reduceAdd]
    refine wpAnyH_done (by kernel_rfl) ?_ _
    clear hv4
    have HS4 := HSW.out.same (by rw [HB0.out]; exact HB4.out)
    have c2 : W.cell? ⟨g1, 2, none⟩ = some (.slice A n c) := (HS4.row 0 rfl).get rfl
    have hsl := HSL.out.below HS4.below (Nat.le_refl _)
    have hn9 := HN.out
    clear HS4
    go_wp2_with (at_builtin; refine wpList_append_slice rfl (.tmp 42) (.tmp 44) rfl B0 _ 6 _ rfl HO4.out A n c d rfl hsl HA.out (by omega) (Nat.le_trans (Nat.le_of_eq HB0.out.symm) HB4.out.size) ?_; intro v5 w5 own5 hb5; rw [← bytesV_apps] at own5; have HO5 := Lib.hid own5; have HB5 := Lib.hid (HB4.out.trans hb5); clear own5 hb5 HO4 HB4 c2 hsl)
    have HEQ : le (wordZ i) 4 ++ [byteZ e, byteZ (n : Int)] ++ d = repH i e d := by unfold repH; rw [HD.out, four_le]
    have hLH : (repH i e d).length = 6 + n := by rw [length_repH, HD.out]
    have own5 := HO5.out
    rw [HEQ, ← hLH] at own5
    have CS := refsealed_any (repH i e d) v5 w5 (own_item own5 (by rw [hLH]; unfold maxLen; omega)) (by rw [hLH]; omega)
    clear HEQ hLH own5 HO5 hn9
    refine CS.mono ?_
    rintro x w6 ⟨v6, rfl, h6, b6⟩
    clear CS
    have HO6 := Lib.hid h6
    have HB6 := Lib.hid b6
    clear h6 b6
    go_wp2_with fail
    go_ret2
    have hz : w.heap.size ≤ B0 := by rw [← HB0.out]; exact HSW.out.below.size
    have hz5 : B0 ≤ w5.heap.size := Nat.le_trans (Nat.le_of_eq HB0.out.symm) HB5.out.size
    exact ⟨_, rfl, own_base HO6.out (Nat.le_trans hz hz5), HSW.out.below.trans ((HB5.out.trans (HB6.out.mono hz5)).mono hz)⟩
end Go.Proofs.YtbhmgnhiglpmhaaDoor

/- Replies as they lie in memory: a slice of replies, opened, taken apart, laid. No function of the program is named here. -/
set_option maxRecDepth 4000
namespace Go.Proofs.YtbhmgnhiglpmhaaDoor
open Go Go.ChangeShapes Go.WideShapes Go.ChangeAt Go.RowKit
abbrev Rp := Int × Int × List (BitVec 8)
def rdRep : Rd Rp := rdMap (fun x => (x.1, x.2.1, x.2.2.1)) (rdCons 1 (rdInt .i64) (rdCons 1 (rdInt .i64) (rdCons 1 (rdSl 1 rdU8) rdNil)))
def RepsAt (w : World) (v : Value) (l : List Rp) : Prop := rdSl 3 rdRep w [v] l
theorem stays_rep : rdRep.Stays := stays_map (stays_cons' (stays_int _) (stays_cons' (stays_int _) (stays_cons' (stays_sl stays_u8) stays_rnil)))
theorem RepsAt.below {w w' : World} {v : Value} {l : List Rp} {B : Nat} (h : RepsAt w v l) (hb : Below B w w') (hB : w.heap.size ≤ B) : RepsAt w' v l := stays_sl stays_rep B w w' _ _ h hb hB
theorem item_rdSl {w : World} {u : Value} {q : List (BitVec 8)} (h : Item w u q) : rdSl 1 rdU8 w [u] q := by
  obtain ⟨A, c, rfl, ⟨A', c', e, h2, h3⟩, h4, h5⟩ := h
  injection e with e1 _ e3
  subst e1 e3
  refine ⟨A, c, rfl, h2, h4, h5, fun hne => ?_⟩
  obtain ⟨b, o, h6, h7, h8⟩ := h3 hne
  refine ⟨b, o, h6, h7, fun k x hx => ⟨[.int .u8 (bd x)], rfl, fun j v hv => ?_, rfl⟩⟩
  cases j with
  | zero => cases hv; simpa using h8 k x hx
  | succ j => simp at hv
theorem int_wf {z : Int} (h0 : -9223372036854775808 ≤ z) (h1 : z < 9223372036854775808) : (Lit.int .i64 z).wf = true := by
  have h2 : IntKind.i64.min = -9223372036854775808 := by decide
  have h3 : IntKind.i64.max = 9223372036854775807 := by decide
  simp only [Lit.wf, Bool.and_eq_true, decide_eq_true_eq]
  omega
/- one reply's cells -/
def RepAt (w : World) (ds : List Value) (x : Rp) : Prop := ∃ A c, ds = [.int .i64 x.1, .int .i64 x.2.1, .slice A x.2.2.length c] ∧ Item w (.slice A x.2.2.length c) x.2.2 ∧ -9223372036854775808 ≤ x.1 ∧ x.1 < 9223372036854775808 ∧ -9223372036854775808 ≤ x.2.1 ∧ x.2.1 < 9223372036854775808
theorem rep_cells {w : World} {ds : List Value} {x : Rp} (h : rdRep w ds x) : RepAt w ds x := by
  obtain ⟨⟨i, e, d, _⟩, h, rfl⟩ := h
  obtain ⟨c0, d0, rfl, _, ⟨rfl, hi⟩, c1, d1, rfl, _, ⟨rfl, he⟩, c2, d2, rfl, _, h3, h4⟩ := h
  have h4 : d2 = [] := h4
  subst h4
  have hi := int_i64 hi
  have he := int_i64 he
  obtain ⟨A, c, rfl, _⟩ := id h3
  exact ⟨A, c, rfl, rdSl_item h3, hi.1, hi.2, he.1, he.2⟩
theorem rep_rd {w : World} {ds : List Value} {x : Rp} (h : RepAt w ds x) : rdRep w ds x := by
  obtain ⟨A, c, rfl, h1, h2, h3, h4, h5⟩ := h
  exact ⟨(x.1, x.2.1, x.2.2, ()), ⟨_, _, rfl, rfl, ⟨rfl, int_wf h2 h3⟩, _, _, rfl, rfl, ⟨rfl, int_wf h4 h5⟩, _, [], rfl, rfl, item_rdSl h1, rfl⟩, rfl⟩
theorem RepAt.below {w w' : World} {ds : List Value} {x : Rp} {B : Nat} (h : RepAt w ds x) (hb : Below B w w') (hB : w.heap.size ≤ B) : RepAt w' ds x := rep_cells (stays_rep B w w' _ _ (rep_rd h) hb hB)
/- an argument that is a slice of replies; one that is a reply -/
theorem cellsI64r : Tryd.prog.cellsOf 3 = 1 := by kernel_rfl
theorem cellsErr : Tryd.prog.cellsOf 36 = 1 := by kernel_rfl
theorem cellsU8r : Tryd.prog.cellsOf 5 = 1 := by kernel_rfl
theorem cellsBytes : Tryd.prog.cellsOf 35 = 1 := by kernel_rfl
theorem cellsRep : Tryd.prog.cellsOf 38 = 3 := by kernel_rfl
theorem opens_rep : Opens Tryd.prog 38 rdRep :=
  opens_map (opens_struct Tryd.underlying38 (by kernel_rfl) (opensF_cons rfl cellsI64r (opens_int Tryd.underlying3) (opensF_cons rfl cellsErr (opens_int Tryd.underlying36) (opensF_cons rfl cellsBytes (opens_sl Tryd.underlying35 cellsU8r (by decide) (opens_u8 Tryd.underlying5)) opensF_nil))))
end Go.Proofs.YtbhmgnhiglpmhaaDoor
