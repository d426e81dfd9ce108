/- Tokens and their bytes: each is told by the other. -/
import Derived.Test.YteidjbbhhfdcpaaDoorTokEq
set_option maxRecDepth 4000
namespace Go.Proofs.YteidjbbhhfdcpaaDoor
open Go Go.RowKit
theorem bd_byteI {z : Int} (h0 : 0 ≤ z) (h1 : z < 256) : bd (byteI z) = z := (bd_of z h0 h1).symm
theorem byteI_bd (x : BitVec 8) : byteI (bd x) = x := bd_inj (bd_byteI (bd_lo x) (bd_hi x))
theorem cut_name {n : List (BitVec 8)} (h : n = [] ∨ goodN n = true) : cutN (padN n) = (n, true) := by
  rcases h with rfl | h
  · decide
  · exact cut_pad h
theorem may_parts {c : Clm} (h : mayC c = true) : 0 ≤ c.p ∧ c.p < 4 ∧ (c.n = [] ∨ goodN c.n = true) ∧ 1 ≤ c.r ∧ c.r ≤ 3 := by
  unfold mayC at h
  simp only [Bool.and_eq_true, decide_eq_true_eq, Bool.or_eq_true] at h
  exact ⟨h.1.1.1.1, h.1.1.1.2, h.1.1.2, h.1.2, h.2⟩
theorem may_len {c : Clm} (h : mayC c = true) : c.n.length ≤ 4 := by
  rcases (may_parts h).2.2.1 with h | h
  · rw [h]; decide
  · exact (good_len h).2.1
theorem lv_le (v : BitVec 32) (r : List (BitVec 8)) : lv 0 (le v 4 ++ r) = v := by
  rw [lv_num _ 0 (by rw [List.length_append, len_le4]; omega), List.drop_zero, List.take_left' (len_le4 v), num_le4]
theorem tok_parts (c : Clm) (t : List (BitVec 8)) :
    (clmB c ++ t).getD 0 0#8 = byteI c.p ∧ ((clmB c ++ t).drop 1).take 4 = padN c.n ∧ (clmB c ++ t).getD 5 0#8 = byteI c.r ∧ (clmB c ++ t).drop 6 = le c.u 4 ++ (le c.g 4 ++ t) ∧ (clmB c ++ t).drop 10 = le c.g 4 ++ t ∧ (clmB c ++ t).drop 14 = t := by
  obtain ⟨a1, a2, a3, a4, ha⟩ := list4 (length_padN c.n)
  have hu : le c.u 4 = [(le c.u 4).getD 0 0#8, (le c.u 4).getD 1 0#8, (le c.u 4).getD 2 0#8, (le c.u 4).getD 3 0#8] := by rw [le4]; rfl
  have hg : le c.g 4 = [(le c.g 4).getD 0 0#8, (le c.g 4).getD 1 0#8, (le c.g 4).getD 2 0#8, (le c.g 4).getD 3 0#8] := by rw [le4]; rfl
  unfold clmB
  rw [ha, hu, hg]
  exact ⟨rfl, rfl, rfl, rfl, rfl, rfl⟩
theorem tok_back {c : Clm} {t : List (BitVec 8)} (h : mayC c = true) (ht : t.length = 32) : tokOk (clmB c ++ t) = true ∧ clmQ (clmB c ++ t) = c ∧ (clmB c ++ t).drop 14 = t := by
  obtain ⟨h1, h2, h3, h4, h5, h6⟩ := tok_parts c t
  obtain ⟨k1, k2, k3, k4, k5⟩ := may_parts h
  have hq : clmQ (clmB c ++ t) = c := by
    unfold clmQ
    rw [h1, h2, h3, h4, h5, cut_name k3, lv_le, lv_le, bd_byteI k1 (by omega), bd_byteI (by omega) (by omega)]
  refine ⟨?_, hq, h6⟩
  unfold tokOk
  rw [hq, h, h2, cut_name k3, decide_eq_true (by rw [List.length_append, length_clmB, ht])]
  rfl
theorem tok_ok {q : List (BitVec 8)} (h : tokOk q = true) : q.length = 46 ∧ (cutN ((q.drop 1).take 4)).2 = true ∧ mayC (clmQ q) = true := by
  unfold tokOk at h
  simp only [Bool.and_eq_true, decide_eq_true_eq] at h
  exact ⟨h.1.1, h.1.2, h.2⟩
theorem tok_forth {q : List (BitVec 8)} (h : tokOk q = true) : clmB (clmQ q) ++ q.drop 14 = q := by
  obtain ⟨hl, hc, _⟩ := tok_ok h
  have hb : ((q.drop 1).take 4).length = 4 := by rw [List.length_take, List.length_drop, hl]; rfl
  have e6 : le (lv 0 (q.drop 6)) 4 = (q.drop 6).take 4 := by rw [le_lv _ 0 (by rw [List.length_drop, hl]; decide), List.drop_zero]
  have e10 : le (lv 0 (q.drop 10)) 4 = (q.drop 10).take 4 := by rw [le_lv _ 0 (by rw [List.length_drop, hl]; decide), List.drop_zero]
  unfold clmB clmQ
  simp only
  rw [byteI_bd, byteI_bd, (cut_ok hb hc).1, e6, e10]
  clear e6 e10 hb h hc
  obtain ⟨r, s, hr, rfl⟩ : ∃ r s, r.length = 14 ∧ q = r ++ s := ⟨q.take 14, q.drop 14, by rw [List.length_take, hl]; rfl, (List.take_append_drop 14 q).symm⟩
  clear hl
  match r, hr with
  | [a0, a1, a2, a3, a4, a5, a6, a7, a8, a9, b0, b1, b2, b3], _ => rfl
theorem tok_inj {a b : Clm} {p q : List (BitVec 8)} (ha : mayC a = true) (hb : mayC b = true) (hp : p.length = 32) (hq : q.length = 32) : (clmB a ++ p = clmB b ++ q) ↔ (a = b ∧ p = q) := by
  constructor
  · intro h
    have h1 := tok_back ha hp
    have h2 := tok_back hb hq
    rw [h] at h1
    exact ⟨h1.2.1.symm.trans h2.2.1, h1.2.2.symm.trans h2.2.2⟩
  · rintro ⟨rfl, rfl⟩; rfl
/- Decode, whole -/
def decC (q : List (BitVec 8)) : Clm := if tokOk q then clmQ q else clm0
def decG (q : List (BitVec 8)) : List (BitVec 8) := if tokOk q then q.drop 14 else zer 32
def decT (q : List (BitVec 8)) : Int := if tokOk q then 0 else 11
theorem length_decG (q : List (BitVec 8)) : (decG q).length = 32 := by
  unfold decG
  split
  · rename_i h; rw [List.length_drop, (tok_ok h).1]
  · exact length_zer 32
theorem decC_len (q : List (BitVec 8)) : (decC q).n.length ≤ 4 := by
  unfold decC
  split
  · rename_i h; exact may_len (tok_ok h).2.2
  · decide
theorem tokdec_any (A : Option Addr) (cc : Nat) (q : List (BitVec 8)) (n : Nat) (hn : q.length = n) (w : World) (hs : Slice w (.slice A n cc) q) :
    Calls Tryd.prog 12 #[.slice A n cc] w fun e w' => e = .returned (.tuple #[.agg (tokCells (decC q) (decG q)), .int .i64 (decT q)]) ∧ Below w.heap.size w w' := by
  subst hn
  by_cases hl : q.length = 46
  · obtain ⟨g, o, rfl, hb, hc⟩ := slice_bat hs (by omega)
    rw [hl] at hc ⊢
    cases hok : (cutN ((q.drop 1).take 4)).2 with
    | false =>
      have ht : tokOk q = false := by unfold tokOk; rw [hok, Bool.and_false, Bool.false_and]
      unfold decC decG decT
      rw [ht]
      exact tokdec_no g o cc q w hb hl hc hok
    | true =>
      cases hm : mayC (clmQ q) with
      | false =>
        have ht : tokOk q = false := by unfold tokOk; rw [hm, Bool.and_false]
        unfold decC decG decT
        rw [ht]
        exact tokdec_not g o cc q w hb hl hc hok hm
      | true =>
        have ht : tokOk q = true := by unfold tokOk; rw [hm, hok, decide_eq_true hl]; rfl
        unfold decC decG decT
        rw [ht]
        exact tokdec_good g o cc q w hb hl hc hok hm
  · have ht : tokOk q = false := by unfold tokOk; rw [decide_eq_false hl, Bool.false_and, Bool.false_and]
    unfold decC decG decT
    rw [ht]
    exact tokdec_len A q.length cc w hl
end Go.Proofs.YteidjbbhhfdcpaaDoor
