/- The statement TagSame: its walk. -/
import Derived.Test.YtnfceejmkcohnaaDoorTagWakes
import Derived.Test.YtnfceejmkcohnaaDoorMod
import Derived.Test.YtnfceejmkcohnaaDoorZeros
import Derived.Test.YtnfceejmkcohnaaDoorOpen
namespace Go.Proofs.YtnfceejmkcohnaaDoor
open Go Go.RowKit
theorem wpList_guarded {P : Program} {ops : Array Oper} {Q : Exit → Act → World → Prop} {a : Act} {w : World} {rest : List Oper} {o : Oper} (hw : Region.wanted o (yielded ops a.tmps) = true)
    (h : ∀ K : Act → World → Prop, (∀ a w, wpList P ops Q rest a w → K a w) → o.wp P a w K Q) : wpList P ops Q (o :: rest) a w :=
  wpList_step fun K hK => by rw [if_pos hw]; exact h K hK
theorem same_at (p q : List (BitVec 8)) (va vb : Value) (w : World) (hp : Slice w va p) (hq : Slice w vb q) (hpl : p.length ≤ 1000000) (hql : q.length ≤ 1000000) (t : Bool) (ht : decide (p = q) = t) :
    Calls Tryd.prog 12 #[va, vb] w fun e w' => e = .returned (.bool t) ∧ w = w' := by
  subst ht; exact same_any p q va vb w hp hq hpl hql
theorem turn_eq (a : List (BitVec 8)) (m : Nat) (hm : m < a.length) (x : BitVec 8) (b : Bool) (hb : (bd x = 0) = (b = true)) : decide (a = a.set m (a.getD m 0 ^^^ x)) = b := by
  have e : a = a.set m (a.getD m 0 ^^^ x) ↔ x = 0 := by
    have hg : a.getD m 0 = a[m] := by simp [List.getD_eq_getElem?_getD, hm]
    constructor
    · intro h
      have h1 : a[m]? = (a.set m (a.getD m 0 ^^^ x))[m]? := by rw [← h]
      rw [List.getElem?_set_self hm, List.getElem?_eq_getElem hm, hg] at h1
      injection h1 with h1
      have h2 : a[m] ^^^ a[m] = a[m] ^^^ (a[m] ^^^ x) := by rw [← h1]
      rw [BitVec.xor_self, ← BitVec.xor_assoc, BitVec.xor_self, BitVec.zero_xor] at h2
      exact h2.symm
    · rintro rfl
      rw [hg]
      simp
  have e2 : bd x = 0 ↔ x = 0 := ⟨fun h => bd_inj h, fun h => by rw [h]; rfl⟩
  have e3 : (a = a.set m (a.getD m 0 ^^^ x)) ↔ b = true := e.trans (e2.symm.trans (by rw [hb]))
  cases b with
  | true => exact decide_eq_true (e3.2 rfl)
  | false => exact decide_eq_false (fun h => by have := e3.1 h; cases this)
theorem ne_len {p q : List (BitVec 8)} (h : p.length ≠ q.length) : decide (p = q) = false := decide_eq_false fun e => h (by rw [e])
theorem slice_set {w : World} {g cap m : Nat} {q : List (BitVec 8)} {cur : Array Value} {t : TypeId} (hg : Row w g t cur) (ht : cur.toList.take q.length = bytesV q) (hc : q.length ≤ cap) (hm : m < q.length) (y : BitVec 8) :
    Slice (w.setCell ⟨g, m, none⟩ (.int .u8 (bd y))) (.slice (some ⟨g, 0, none⟩) q.length cap) (q.set m y) := by
  have hr := hg.put m (.int .u8 (bd y))
  refine ⟨_, cap, by rw [List.length_set], by rw [List.length_set]; exact hc, fun _ => ⟨g, 0, rfl, hr.lt, fun j x hx => ?_⟩⟩
  rw [Nat.zero_add, hr.cell, Array.getElem?_setIfInBounds]
  have hcj : ∀ j, j < q.length → cur[j]? = (bytesV q)[j]? := fun j hj => by
    rw [← ht, List.getElem?_take, if_pos hj]; simp
  have hj : j < q.length := by have := (List.getElem?_eq_some_iff.1 hx).1; rwa [List.length_set] at this
  have hcur : j < cur.size := by
    have := hcj j hj
    have h2 : (bytesV q)[j]? = some (.int .u8 (bd q[j])) := by simp [bytesV, hj]
    rw [h2] at this
    exact (Array.getElem?_eq_some_iff.1 this).1
  by_cases hmj : m = j
  · subst hmj
    rw [if_pos rfl, if_pos hcur]
    rw [List.getElem?_set_self hm] at hx
    injection hx with hx
    rw [hx]
  · rw [if_neg hmj, hcj j hj]
    rw [List.getElem?_set_ne hmj] at hx
    simp [bytesV, hx]
attribute [local go_sem] xor_bd
set_option maxHeartbeats 800000 in
theorem same_walk (A : Option Addr) (c : Nat) (a : List (BitVec 8)) (k : Int) (n : Int) (w : World) (hT : Tab w) (hS : Slice w (.slice A a.length c) a) (hN : A = none → c = 0) (hm : a.length ≤ maxLen) (_ : (Lit.int .i64 k).wf = true) (wn : (Lit.int .u8 n).wf = true) :
    Calls Tryd.prog 5 #[.slice A a.length c, .int .i64 k, .int .u8 n] w fun e w' => e = .returned (.bool true) ∧ Below w.heap.size w w' := by
  have hb8 := Go.bounds_u8 wn
  obtain ⟨x, rfl⟩ : ∃ x, n = bd x := ⟨_, bd_of n hb8.1 (by omega)⟩
  unfold maxLen at hm
  clear wn hb8
  have HT := Lib.hid hT
  have HS := Lib.hid hS
  have HN := Lib.hid hN
  clear hT hN
  by_cases hbig : 3000 < a.length ∨ a.length = 0
  · clear hS
    have hd : (decide ((3000 : Int) < (a.length : Int)) || ((a.length : Int) == 0)) = true := by
      rcases hbig with h | h
      · rw [decide_eq_true (by omega)]; rfl
      · rw [h]; rfl
    go_enter Tryd.func5, Tryd.ntmps5
    go_wp2_with fail
    all_goals
      refine (twakes_any w HT.out).mono ?_
      rintro e w1 ⟨rfl, hb⟩
      go_wp2_with fail
      go_ret
      exact ⟨rfl, hb⟩
  · have d0 : decide ((3000 : Int) < (a.length : Int)) = false := by simp; omega
    have d1 : ((a.length : Int) == 0) = false := beq_eq_false_iff_ne.2 (by omega)
    have hcap : a.length ≤ c := by obtain ⟨_, _, h1, h2, _⟩ := hS; injection h1 with _ _ h1; omega
    have hS0 := HS.out.below ((Below.refl w.heap.size w).alloc (Nat.le_refl _) (.cells #[] 5)) (Nat.le_refl _)
    clear hS
    go_enter Tryd.func5, Tryd.ntmps5
    go_wp2_with (first | (at_builtin; refine wpList_append_slice rfl (.tmp 17) (.tmp 18) rfl w.heap.size _ 0 [] rfl (own_empty w) A a.length c a rfl hS0 HN.out (by omega) (by simp) ?_; intro kv w4 own1 hb4; simp only [Nat.zero_add, List.nil_append] at own1; clear hS0))
    refine (mod_any k a.length w4 (by omega) (by omega)).mono ?_
    rintro e w5 ⟨rfl, rfl⟩
    have hmlt := modK_lt k a.length (by omega)
    generalize modK k a.length = m at *
    obtain ⟨g, cap, cur, rfl, hg, hh, hcc, ht⟩ : ∃ g cap cur, kv = .slice (some ⟨g, 0, none⟩) a.length cap ∧ w.heap.size ≤ g ∧ Row w4 g 5 cur ∧ a.length ≤ cap ∧ cur.toList.take a.length = bytesV a := by
      rcases own1.2 with ⟨_, h0⟩ | ⟨g, cap, cur, h1, h2, h3, h4, _, _, h7⟩
      · omega
      · exact ⟨g, cap, cur, h1, h2, h3, h4, by simpa using h7⟩
    have c0 : w4.cell? ⟨g, m, none⟩ = some (.int .u8 (bd (a.getD m 0))) := by
      rw [own1.cellAt m (by omega)]
      simp [bytesV, List.getD_eq_getElem?_getD, hmlt]
    have f0 := hh.free m
    have hb04 : Below w.heap.size w w4 := ((Below.refl w.heap.size w).alloc (Nat.le_refl _) _).trans hb4
    have HSB := Lib.hid (slice_set hh ht hcc hmlt (a.getD m 0 ^^^ x))
    have hbs := hb04.setCell (p := ⟨g, m, none⟩) hg (.int .u8 (bd (a.getD m 0 ^^^ x)))
    have HSA := Lib.hid (HS.out.below hbs (Nat.le_refl _))
    have HTW := Lib.hid (HT.out.below hbs HT.out.pos)
    have hL : (a.set m (a.getD m 0 ^^^ x)).length = a.length := List.length_set
    obtain ⟨t, htx⟩ : ∃ t : Bool, (bd x == 0) = t := ⟨_, rfl⟩
    have HE1 := Lib.hid (turn_eq a m hmlt x t (by rw [← htx]; simp))
    have HE2 : Hid (decide (a.set m (a.getD m 0 ^^^ x) = a) = t) := Lib.hid (by rw [← HE1.out]; exact decide_eq_decide.2 ⟨Eq.symm, Eq.symm⟩)
    have hm0 : (0 : Int) ≤ (m : Int) := by omega
    have hm1 : (m : Int) < (a.length : Int) := by omega
    clear own1 hb4 hh ht hb04 hcc
    generalize a.set m (a.getD m 0 ^^^ x) = B at *
    generalize hy : a.getD m 0 = y at *
    clear hy
    go_wp2_with fail
    generalize w4.setCell ⟨g, m, none⟩ (.int .u8 (bd (y ^^^ x))) = w6 at *
    clear c0 f0 hm0 hm1
    have h1l : (1 : Int) ≤ (a.length : Int) := by omega
    have hlc : (a.length : Int) ≤ (c : Int) := by omega
    obtain ⟨ba, oa, rfl⟩ : ∃ ba oa, A = some ⟨ba, oa, none⟩ := by
      obtain ⟨_, _, h1, _, h3⟩ := HSA.out
      injection h1 with h1 _ _
      obtain ⟨b, o, h4, _⟩ := h3 (by intro e; subst e; simp at hbig)
      exact ⟨b, o, by rw [h1, h4]⟩
    have HSD1 : Hid (c = 1 → Slice w6 (.slice (some ⟨ba, oa, none⟩) (a.length - 1) 0) (a.drop 1)) := Lib.hid fun hc => by
      have h := HSA.out.drop (k := 1) (by omega)
      rwa [if_pos hc, hc] at h
    have HSD2 : Hid (¬ c = 1 → Slice w6 (.slice (some ⟨ba, oa + 1, none⟩) (a.length - 1) (c - 1)) (a.drop 1)) := Lib.hid fun hc => by
      have h := HSA.out.drop (k := 1) (by omega)
      rwa [if_neg hc] at h
    have HN1 : Hid (decide (a = a.drop 1) = false) := Lib.hid (ne_len (by rw [List.length_drop]; omega))
    have HN2 : Hid (decide (a.drop 1 = a) = false) := Lib.hid (ne_len (by rw [List.length_drop]; omega))
    have HN3 : Hid (decide (a = a ++ [0#8]) = false) := Lib.hid (ne_len (by rw [List.length_append]; simp))
    refine (same_at a B _ _ w6 HSA.out HSB.out (by omega) (by omega) t HE1.out).mono ?_
    rintro e w7 ⟨rfl, rfl⟩
    have ht2 : (t == t) = true := beq_self_eq_true _
    go_wp2_with fail
    refine (same_at B a _ _ w6 HSB.out HSA.out (by omega) (by omega) t HE2.out).mono ?_
    rintro e w7 ⟨rfl, rfl⟩
    go_wp2_with fail
    · have hc1 : c = 1 := by assumption
      subst hc1
      have HSE := Lib.hid (HSD1.out rfl)
      have HSF : Hid (Slice w6 (.slice (some ⟨ba, oa, none⟩) 0 0) (a.drop 1)) := Lib.hid (by
        have h := HSE.out
        rwa [show a.length - 1 = 0 by omega] at h)
      clear HSD1 HSD2
      refine (same_at a (a.drop 1) _ _ w6 HSA.out HSE.out (by omega) (by rw [List.length_drop]; omega) false HN1.out).mono ?_
      rintro e w7 ⟨rfl, rfl⟩
      go_wp2_with fail
      refine (same_at (a.drop 1) a _ _ w6 HSF.out HSA.out (by rw [List.length_drop]; omega) (by omega) false HN2.out).mono ?_
      rintro e w7 ⟨rfl, rfl⟩
      have hSx := HSA.out.below ((Below.refl w6.heap.size w6).alloc (Nat.le_refl _) (.cells #[] 5)) (Nat.le_refl _)
      go_wp2_with (first | (at_builtin; refine wpList_guarded (by rfl) (fun K hK => ?_); refine wp_append_slice (.tmp 60) (.tmp 61) rfl w6.heap.size _ 0 [] rfl (own_empty w6) _ a.length 1 a rfl hSx (fun h => by cases h) (by omega) (by simp) ?_; intro v8 w8 own8 hb8; simp only [Nat.zero_add, List.nil_append] at own8; obtain ⟨A8, c8, rfl⟩ := own_form own8; refine hK _ _ ?_; clear hK K hSx; have own9 := own8.alloc (.cells #[.int .u8 0] 5); have sl9 : Slice (w8.alloc (.cells #[.int .u8 0] 5)) (.slice (some ⟨w8.heap.size, 0, none⟩) 1 1) [0#8] := bytes_slice (q := [0#8]) (t := 5) (fr := (0, 0)) (heap_alloc_new w8 _) (by simp); have hb08 : Below w6.heap.size w6 w8 := ((Below.refl w6.heap.size w6).alloc (Nat.le_refl _) _).trans hb8; have hz9 : w6.heap.size ≤ (w8.alloc (.cells #[.int .u8 0] 5)).heap.size := Nat.le_trans hb08.size (by simp); clear own8 hb8) | (at_builtin; refine wpList_guarded (by rfl) (fun K hK => ?_); refine wp_append_slice (.tmp 62) (.tmp 63) rfl w6.heap.size _ a.length (bytesV a) rfl own9 _ 1 1 [0#8] rfl sl9 (fun h => by cases h) (by omega) hz9 ?_; intro v10 w10 own10 hb10; refine hK _ _ ?_; clear hK K own9 sl9))
      have hb010 : Below w6.heap.size w6 w10 := (hb08.alloc hb08.size _).trans hb10
      have s10 : Slice w10 v10 (a ++ [0#8]) := own_slice (by rw [show bytesV (a ++ [0#8]) = bytesV a ++ bytesV [0#8] by simp [bytesV], List.length_append]; exact own10)
      refine (same_at a (a ++ [0#8]) _ _ w10 (HSA.out.below hb010 (Nat.le_refl _)) s10 (by omega) (by rw [List.length_append]; simp; omega) false HN3.out).mono ?_
      rintro e w11 ⟨rfl, rfl⟩
      have hbz := hbs.trans (hb010.mono hbs.size)
      clear hb08 hb10 own10 hz9 s10
      go_wp2_with fail
      refine (twakes_any w10 (HT.out.below hbz HT.out.pos)).mono ?_
      rintro e w12 ⟨rfl, hb12⟩
      go_wp2_with fail
      go_ret
      exact ⟨rfl, hbz.trans (hb12.mono hbz.size)⟩
    · have hc1 : ¬ c = 1 := by assumption
      have HSE := Lib.hid (HSD2.out hc1)
      clear HSD1 HSD2
      refine (same_at a (a.drop 1) _ _ w6 HSA.out HSE.out (by omega) (by rw [List.length_drop]; omega) false HN1.out).mono ?_
      rintro e w7 ⟨rfl, rfl⟩
      go_wp2_with fail
      refine (same_at (a.drop 1) a _ _ w6 HSE.out HSA.out (by rw [List.length_drop]; omega) (by omega) false HN2.out).mono ?_
      rintro e w7 ⟨rfl, rfl⟩
      have hSx := HSA.out.below ((Below.refl w6.heap.size w6).alloc (Nat.le_refl _) (.cells #[] 5)) (Nat.le_refl _)
      go_wp2_with (first | (at_builtin; refine wpList_guarded (by rfl) (fun K hK => ?_); refine wp_append_slice (.tmp 60) (.tmp 61) rfl w6.heap.size _ 0 [] rfl (own_empty w6) _ a.length c a rfl hSx (fun h => by cases h) (by omega) (by simp) ?_; intro v8 w8 own8 hb8; simp only [Nat.zero_add, List.nil_append] at own8; obtain ⟨A8, c8, rfl⟩ := own_form own8; refine hK _ _ ?_; clear hK K hSx; have own9 := own8.alloc (.cells #[.int .u8 0] 5); have sl9 : Slice (w8.alloc (.cells #[.int .u8 0] 5)) (.slice (some ⟨w8.heap.size, 0, none⟩) 1 1) [0#8] := bytes_slice (q := [0#8]) (t := 5) (fr := (0, 0)) (heap_alloc_new w8 _) (by simp); have hb08 : Below w6.heap.size w6 w8 := ((Below.refl w6.heap.size w6).alloc (Nat.le_refl _) _).trans hb8; have hz9 : w6.heap.size ≤ (w8.alloc (.cells #[.int .u8 0] 5)).heap.size := Nat.le_trans hb08.size (by simp); clear own8 hb8) | (at_builtin; refine wpList_guarded (by rfl) (fun K hK => ?_); refine wp_append_slice (.tmp 62) (.tmp 63) rfl w6.heap.size _ a.length (bytesV a) rfl own9 _ 1 1 [0#8] rfl sl9 (fun h => by cases h) (by omega) hz9 ?_; intro v10 w10 own10 hb10; refine hK _ _ ?_; clear hK K own9 sl9))
      have hb010 : Below w6.heap.size w6 w10 := (hb08.alloc hb08.size _).trans hb10
      have s10 : Slice w10 v10 (a ++ [0#8]) := own_slice (by rw [show bytesV (a ++ [0#8]) = bytesV a ++ bytesV [0#8] by simp [bytesV], List.length_append]; exact own10)
      refine (same_at a (a ++ [0#8]) _ _ w10 (HSA.out.below hb010 (Nat.le_refl _)) s10 (by omega) (by rw [List.length_append]; simp; omega) false HN3.out).mono ?_
      rintro e w11 ⟨rfl, rfl⟩
      have hbz := hbs.trans (hb010.mono hbs.size)
      clear hb08 hb10 own10 hz9 s10
      go_wp2_with fail
      refine (twakes_any w10 (HT.out.below hbz HT.out.pos)).mono ?_
      rintro e w12 ⟨rfl, hb12⟩
      go_wp2_with fail
      go_ret
      exact ⟨rfl, hbz.trans (hb12.mono hbz.size)⟩
end Go.Proofs.YtnfceejmkcohnaaDoor
