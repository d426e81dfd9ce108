/- Steps of fates, opened; both fates at once. -/
import Derived.Test.YtlncdokeecmnjaaFatRefT
import Derived.Test.YtlncdokeecmnjaaKeepInts
import Derived.Test.YtlncdokeecmnjaaAppEI
set_option maxRecDepth 4000
namespace Go.Proofs.Ytlncdokeecmnjaa
open Go Go.ChangeShapes Go.WideShapes Go.ChangeAt Go.RowKit
def rdStepF : Rd (Bool × List Int) := rdMap (fun x => (x.1, x.2.1)) (rdCons 1 rdBool (rdCons 1 (rdSl 1 (rdInt .i64)) rdNil))
def StepsF (w : World) (v : Value) (l : List (Bool × List Int)) : Prop := rdSl 2 rdStepF w [v] l
theorem stepsF_len {w : World} {A : Option Addr} {n c : Nat} {l : List (Bool × List Int)} (h : StepsF w (.slice A n c) l) : l.length = n := by
  obtain ⟨A', c', e1, _⟩ := h
  have e1 : Value.slice A n c = .slice A' l.length c' := by simpa using e1
  injection e1 with _ e1 _
  exact e1.symm
theorem stepsF_get {w : World} {A : Option Addr} {n c : Nat} {l : List (Bool × List Int)} (h : StepsF w (.slice A n c) l) {k : Nat} (hk : k < l.length) :
    ∃ b o t L B m c', l[k]? = some (t, L) ∧ A = some ⟨b, o, none⟩ ∧ b < w.heap.size ∧ w.cell? ⟨b, o + k * 2, none⟩ = some (.bool t) ∧ w.cell? ⟨b, o + k * 2 + 1, none⟩ = some (.slice B m c') ∧ IntsAt w (.slice B m c') L := by
  obtain ⟨A', c', e1, _, _, _, h5⟩ := h
  have e1 : Value.slice A n c = .slice A' l.length c' := by simpa using e1
  injection e1 with e1 _ _
  subst e1
  obtain ⟨b, o, h6, h7, h8⟩ := h5 (by rintro rfl; simp at hk)
  obtain ⟨x, hx⟩ : ∃ x, l[k]? = some x := ⟨_, List.getElem?_eq_getElem hk⟩
  obtain ⟨ds, _, h10, h11⟩ := h8 k x hx
  obtain ⟨⟨t, L, _⟩, h, rfl⟩ := h11
  obtain ⟨c0, d0, rfl, _, h0, c1, d1, rfl, _, h1, h2⟩ := h
  have h0 : c0 = [.bool t] := h0
  have h2 : d1 = [] := h2
  subst h0 h2
  obtain ⟨B, c2, rfl, _⟩ := id h1
  exact ⟨b, o, t, L, B, _, c2, hx, h6, h7, h10 0 _ rfl, h10 1 _ rfl, h1⟩
theorem cellsF_bool : Try.prog.cellsOf 4 = 1 := by kernel_rfl
theorem cellsF_int : Try.prog.cellsOf 3 = 1 := by kernel_rfl
theorem cellsF_sl : Try.prog.cellsOf 25 = 1 := by kernel_rfl
theorem cellsF_st : Try.prog.cellsOf 32 = 2 := by kernel_rfl
theorem opens_stepF : Opens Try.prog 32 rdStepF :=
  opens_map (opens_struct Try.underlying32 (by kernel_rfl) (opensF_cons rfl cellsF_bool (opens_bool Try.underlying4) (opensF_cons rfl cellsF_sl (opens_sl Try.underlying25 cellsF_int (by decide) (opens_int Try.underlying3)) opensF_nil)))
theorem opens_stepsF : Opens Try.prog 22 (rdSl 2 rdStepF) := opens_sl Try.underlying22 cellsF_st (by decide) opens_stepF
theorem open_stepsF {H : Type} {enc : TypeId × Value → H} {W : World} {r : Reach} {base : Nat} {v : Value} {d : DataW H} {ps : List MemPlace} (hval : Value.okWide Try.prog W r base 22 v)
    (h : DataW.Trod enc Try.prog W 0 (fun _ => true) true 22 v d ps) (hlt : ∀ x ∈ ps, x.block < W.heap.size) :
    ∃ A n c l, v = .slice A n c ∧ StepsF W (.slice A n c) l := by
  obtain ⟨A, c, l, e, hx⟩ := open_argSl Try.underlying22 opens_stepsF hval h hlt
  exact ⟨A, _, c, l, e, hx⟩
/- both -/
theorem RFat.chg {w w' : World} {g k : Nat} {t : TypeId} {cs : Array Value} {l : List Int} (h : RFat w g l) (hc : Chg (fun j => j = k) w w') (hne : g ≠ k) (hr : Row w k t cs) (hs : ∀ k : Nat, ∀ v, cs[k]? = some v → ∀ z, v ≠ .int .i64 z) : RFat w' g l := by
  obtain ⟨A, n, c, h1, h2⟩ := h
  exact ⟨A, n, c, h1.chg hc hne, ints_chgT h2 hc (ints_neT h2 hr hs)⟩
theorem FatAt.chg {w w' : World} {g k : Nat} {t : TypeId} {cs : Array Value} {l : List Int} (h : FatAt w g l) (hc : Chg (fun j => j = k) w w') (hne : g ≠ k) (hr : Row w k t cs) (hs : ∀ k : Nat, ∀ v, cs[k]? = some v → ∀ z, v ≠ .int .i64 z) : FatAt w' g l := by
  obtain ⟨A, n, c, h1, h2⟩ := h
  exact ⟨A, n, c, h1.chg hc hne, ints_chgT h2 hc (ints_neT h2 hr hs)⟩
def Both (w0 : World) (g k : Nat) (L M : List Int) (W : World) : Prop := FatAt W g L ∧ RFat W k M ∧ Below w0.heap.size w0 W ∧ g ≠ k ∧ w0.heap.size ≤ g ∧ w0.heap.size ≤ k
theorem Both.call {w0 W W' : World} {g k : Nat} {L M : List Int} (h : Both w0 g k L M W) (hb : Below W.heap.size W W') : Both w0 g k L M W' :=
  ⟨h.1.call hb, h.2.1.call hb, h.2.2.1.trans (hb.mono h.2.2.1.size), h.2.2.2⟩
theorem Both.left {w0 W W' : World} {g k : Nat} {L L' M : List Int} (h : Both w0 g k L M W) (hf : FatAt W' g L') (hc : Chg (fun j => j = g) W W') : Both w0 g k L' M W' := by
  obtain ⟨h1, h2, h3, h4, h5, h6⟩ := h
  obtain ⟨A, n, c, hr, _⟩ := h1
  exact ⟨hf, h2.chg hc (fun e => h4 e.symm) hr sl_noint, h3.trans (chg_belowF hc h5 h3.size), h4, h5, h6⟩
theorem Both.right {w0 W W' : World} {g k : Nat} {L M M' : List Int} (h : Both w0 g k L M W) (hf : RFat W' k M') (hc : Chg (fun j => j = k) W W') : Both w0 g k L M' W' := by
  obtain ⟨h1, h2, h3, h4, h5, h6⟩ := h
  obtain ⟨A, n, c, hr, _⟩ := h2
  exact ⟨h1.chg hc h4 hr sl_noint, hf, h3.trans (chg_belowF hc h6 h3.size), h4, h5, h6⟩
theorem head_form (l : List Int) : ∃ b0 b1 b2 b3, headC l = #[.bool b0, .bool b1, .bool b2, .bool b3] := by
  cases l with
  | nil => exact ⟨_, _, _, _, rfl⟩
  | cons x l =>
    show ∃ b0 b1 b2 b3, fatC x = _
    unfold fatC
    split <;> exact ⟨_, _, _, _, rfl⟩
theorem fat_form (n : Int) : ∃ b0 b1 b2 b3, fatC n = #[.bool b0, .bool b1, .bool b2, .bool b3] := by
  unfold fatC
  split <;> exact ⟨_, _, _, _, rfl⟩
theorem addL_len {l l2 : List Int} (h : l.length ≤ 64) : (addL l l2).length ≤ 64 := by
  unfold addL
  split
  · exact h
  · split
    · exact h
    · rw [List.length_append]; omega
theorem eql_rfat (a b c d a' b' c' d' : Bool) (w : World) : (Op.equalIn 10000 34 (.agg #[.bool a, .bool b, .bool c, .bool d]) (.agg #[.bool a', .bool b', .bool c', .bool d'])).run Try.prog w = .ok (a == a' && (b == b' && (c == c' && d == d'))) w := by
  have hS : Try.prog.underlying 34 = some (.struct (Try.prog.fieldsOf 34)) := by kernel_rfl
  rw [show (10000 : Nat) = 9999 + 1 from rfl, run_equalIn_agg w 9999 34 _ _ hS (by kernel_rfl)]
  have u3 := Try.underlying4
  simp only [Program.fieldsOf, Try.underlying34]
  go_simp
  cases a <;> cases a' <;> cases b <;> cases b' <;> cases c <;> cases c' <;> cases d <;> cases d' <;> rfl
end Go.Proofs.Ytlncdokeecmnjaa
