/- The functions of fates: Of, Take, All, Add. -/
import Derived.Test.YtlncdokeecmnjaaFatCat
set_option maxRecDepth 4000
namespace Go.Proofs.Ytlncdokeecmnjaa
open Go Go.RowKit
def fb (n k : Int) : Bool := bits .and .i64 n k != 0
def fatC (n : Int) : Array Value := if n < 0 then #[.bool false, .bool false, .bool false, .bool false] else #[.bool (fb n 1), .bool (fb n 2), .bool (fb n 4), .bool (fb n 8)]
theorem fatC_neg {n : Int} (h : n < 0) : fatC n = #[.bool false, .bool false, .bool false, .bool false] := if_pos h
theorem fatC_pos {n : Int} (h : ¬ n < 0) : fatC n = #[.bool (fb n 1), .bool (fb n 2), .bool (fb n 4), .bool (fb n 8)] := if_neg h
theorem fatC_size (n : Int) : (fatC n).size = 4 := by unfold fatC; split <;> rfl
theorem one_fatC (n : Int) : (Value.agg (fatC n)).cells.all (·.oneCell') = true := by unfold fatC; split <;> simp [Value.cells, Value.oneCell']
theorem size_fat : (Try.prog.info? 36).map (·.size) = some 4 := by kernel_rfl
theorem size_fatC (n : Int) : (Try.prog.info? 36).map (·.size) = some (fatC n).size := by rw [fatC_size]; exact size_fat
theorem of_any (n : Int) (w : World) : Calls Try.prog 15 #[.int .i64 n] w fun e w' => e = .returned (.agg (fatC n)) ∧ Below w.heap.size w w' := by
  by_cases h : n < 0
  · have hd : decide (n < 0) = true := decide_eq_true h
    rw [fatC_neg h]
    clear h
    have HS := St.nil w noF
    go_enter Try.func15, Try.ntmps15
    go_upto_region 1 with (first | ((with_reducible refine wpList_plain ?_ ?_); exact rfl; intro KK hKK; refine wp_st_alloc HS 36 (#[.bool false, .bool false, .bool false, .bool false]) rfl (.agg (#[.bool false, .bool false, .bool false, .bool false])) (by kernel_rfl) (rfl) (fun g2 W1 HSx => hKK _ _ ?_); clear hKK KK HS; have HS : St w noF [⟨g2, 36, #[.bool false, .bool false, .bool false, .bool false]⟩] W1 := HSx; clear HSx))
    go_wp2_with (first | ((with_reducible refine wpList_plain ?_ ?_); exact rfl; intro KK hKK; refine wp_st_store HS 0 0 36 (.tmp 2) (.tmp 5) rfl rfl rfl (.agg (#[.bool false, .bool false, .bool false, .bool false])) rfl (by exact size_fat) (Nat.le_refl 4) (by simp [Value.cells, Value.oneCell']) (#[.bool false, .bool false, .bool false, .bool false]) (by exact spl_agg _ _ _ rfl rfl) (fun W2 HSx => hKK _ _ ?_); clear hKK KK HS; have HS : St w noF [⟨g2, 36, #[.bool false, .bool false, .bool false, .bool false]⟩] W2 := HSx; clear HSx))
    refine bodyPost_ret (results_cell_row Try.results15 _ _ g2 36 (#[.bool false, .bool false, .bool false, .bool false]) (0, 0) _ rfl (HS.row 0 rfl) Try.underlying36 rfl (by exact size_fat)) rfl ?_
    exact ⟨rfl, HS.below⟩
  · have hd : decide (n < 0) = false := decide_eq_false h
    rw [fatC_pos h]
    clear h
    have HS := St.nil w noF
    go_enter Try.func15, Try.ntmps15
    go_upto_region 1 with (first | ((with_reducible refine wpList_plain ?_ ?_); exact rfl; intro KK hKK; refine wp_st_alloc HS 36 (#[.bool false, .bool false, .bool false, .bool false]) rfl (.agg (#[.bool false, .bool false, .bool false, .bool false])) (by kernel_rfl) (rfl) (fun g2 W1 HSx => hKK _ _ ?_); clear hKK KK HS; have HS : St w noF [⟨g2, 36, #[.bool false, .bool false, .bool false, .bool false]⟩] W1 := HSx; clear HSx))
    go_wp2_with (first | ((with_reducible refine wpList_plain ?_ ?_); exact rfl; intro KK hKK; refine wp_st_store HS 0 0 36 (.tmp 2) (.tmp 18) rfl rfl rfl (.agg (#[.bool (fb n 1), .bool (fb n 2), .bool (fb n 4), .bool (fb n 8)])) rfl (by exact size_fat) (Nat.le_refl 4) (by simp [Value.cells, Value.oneCell']) (#[.bool (fb n 1), .bool (fb n 2), .bool (fb n 4), .bool (fb n 8)]) (by exact spl_agg _ _ _ rfl rfl) (fun W5 HSx => hKK _ _ ?_); clear hKK KK HS; have HS : St w noF [⟨g2, 36, #[.bool (fb n 1), .bool (fb n 2), .bool (fb n 4), .bool (fb n 8)]⟩] W5 := HSx; clear HSx))
    refine bodyPost_ret (results_cell_row Try.results15 _ _ g2 36 (#[.bool (fb n 1), .bool (fb n 2), .bool (fb n 4), .bool (fb n 8)]) (0, 0) _ rfl (HS.row 0 rfl) Try.underlying36 rfl (by exact size_fat)) rfl ?_
    exact ⟨rfl, HS.below⟩
/- the fates that are to come -/
def FatAt (w : World) (g : Nat) (l : List Int) : Prop := ∃ A n c, Row w g 27 #[.slice A n c] ∧ IntsAt w (.slice A n c) l
theorem FatAt.call {w w' : World} {g : Nat} {l : List Int} (h : FatAt w g l) (hb : Below w.heap.size w w') : FatAt w' g l := by
  obtain ⟨A, n, c, h1, h2⟩ := h
  exact ⟨A, n, c, h1.call hb, h2.below hb (Nat.le_refl _)⟩
theorem ints_chg {w w' : World} {g : Nat} {A : Option Addr} {n c : Nat} {l : List Int} {cs : Array Value} (h : IntsAt w (.slice A n c) l) (k : Chg (fun k => k = g) w w') (hne : ∀ b o, A = some ⟨b, o, none⟩ → l ≠ [] → b ≠ g) (_ : cs = cs) : IntsAt w' (.slice A n c) l := by
  obtain ⟨A', c', e1, h2, h3, h4, h5⟩ := h
  have e1' : Value.slice A n c = .slice A' l.length c' := by simpa using e1
  injection e1' with e2 _ _
  refine ⟨A', c', e1, h2, h3, h4, fun hl => ?_⟩
  obtain ⟨b, o, h6, h7, h8⟩ := h5 hl
  refine ⟨b, o, h6, Nat.lt_of_lt_of_le h7 k.size, fun j x hx => ?_⟩
  obtain ⟨ds, h9, h10, h11⟩ := h8 j x hx
  have hbg : ¬ b = g := hne b o (by rw [e2, h6]) hl
  refine ⟨ds, h9, fun i v hv => ?_, h11⟩
  have h12 := h10 i v hv
  unfold World.cell? at h12 ⊢
  rw [k.block b h7 hbg]
  exact h12
theorem ints_tail {w : World} {b o n c : Nat} {x : Int} {l : List Int} (h : IntsAt w (.slice (some ⟨b, o, none⟩) n c) (x :: l)) : IntsAt w (.slice (if c = 1 then some ⟨b, o, none⟩ else some ⟨b, o + 1, none⟩) (n - 1) (c - 1)) l := by
  have hln := ints_len h
  have hcp := ints_cap h
  simp only [List.length_cons] at hln
  obtain ⟨A', c', e1, h2, h3, h4, h5⟩ := h
  have e1 : Value.slice (some ⟨b, o, none⟩) n c = .slice A' (x :: l).length c' := by simpa using e1
  injection e1 with e2 _ e3
  subst e2 e3
  refine ⟨_, _, by rw [show n - 1 = l.length by omega], by omega, fun h => (by split at h <;> cases h), by have := hcp.2; omega, fun hl => ?_⟩
  have hl0 : 0 < l.length := List.length_pos_iff.2 hl
  rw [if_neg (by omega)]
  obtain ⟨b', o', h6, h7, h8⟩ := h5 (by simp)
  injection h6 with h6
  injection h6 with h6 h6'
  subst h6 h6'
  refine ⟨b, o + 1, rfl, h7, fun k y hy => ?_⟩
  obtain ⟨ds, h9, h10, h11⟩ := h8 (k + 1) y (by simpa using hy)
  exact ⟨ds, h9, by rw [show o + 1 + k * 1 = o + (k + 1) * 1 by omega]; exact h10, h11⟩
theorem st_one {w : World} {g : Nat} {t : TypeId} {cs : Array Value} (h : Row w g t cs) : St w (fun k => k = g) [⟨g, t, cs⟩] w :=
  ⟨Chg.refl _ _, (fun j r hj => by cases j with | zero => (cases hj; exact h) | succ j => cases hj), (fun j k r q hjk hj hk => by cases j with | zero => (cases k with | zero => exact absurd rfl hjk | succ k => cases hk) | succ j => cases hj), (fun j r hj => by cases j with | zero => (cases hj; exact .inl rfl) | succ j => cases hj)⟩
/- a slice's block is none of another type -/
theorem ints_ne {w : World} {g : Nat} {cs : Array Value} {A : Option Addr} {n c : Nat} {l : List Int} (h : IntsAt w (.slice A n c) l) (hr : Row w g 27 cs) (hs : ∀ k : Nat, ∀ v, cs[k]? = some v → ∀ z, v ≠ .int .i64 z) : ∀ b o, A = some ⟨b, o, none⟩ → l ≠ [] → b ≠ g := by
  rintro b o rfl hl rfl
  obtain ⟨b', o', x, _, e, _, hc, _⟩ := ints_get h (k := 0) (List.length_pos_iff.2 hl)
  injection e with e
  injection e with e1 e2
  subst e1 e2
  rw [hr.cell] at hc
  exact hs _ _ hc x rfl
theorem sl_noint {A : Option Addr} {n c : Nat} : ∀ k : Nat, ∀ v, (#[.slice A n c] : Array Value)[k]? = some v → ∀ z, v ≠ .int .i64 z := by
  intro k v hv z e
  subst e
  cases k with
  | zero => cases hv
  | succ k => simp at hv
theorem take_nil (w : World) : Calls Try.prog 9 #[.pointer none] w fun e w' => e = .returned (.agg #[.bool false, .bool false, .bool false, .bool false]) ∧ Below w.heap.size w w' := by
  have HS := St.nil w noF
  go_enter Try.func9, Try.ntmps9
  go_upto_region 1 with (first | ((with_reducible refine wpList_plain ?_ ?_); exact rfl; intro KK hKK; refine wp_st_alloc HS 36 (#[.bool false, .bool false, .bool false, .bool false]) rfl (.agg (#[.bool false, .bool false, .bool false, .bool false])) (by kernel_rfl) (rfl) (fun g2 W1 HSx => hKK _ _ ?_); clear hKK KK HS; have HS : St w noF [⟨g2, 36, #[.bool false, .bool false, .bool false, .bool false]⟩] W1 := HSx; clear HSx))
  go_wp2_with (first | ((with_reducible refine wpList_plain ?_ ?_); exact rfl; intro KK hKK; refine wp_st_store HS 0 0 36 (.tmp 2) (.tmp 14) rfl rfl rfl (.agg (#[.bool false, .bool false, .bool false, .bool false])) rfl (by exact size_fat) (Nat.le_refl 4) (by simp [Value.cells, Value.oneCell']) (#[.bool false, .bool false, .bool false, .bool false]) (by exact spl_agg _ _ _ rfl rfl) (fun W2 HSx => hKK _ _ ?_); clear hKK KK HS; have HS : St w noF [⟨g2, 36, #[.bool false, .bool false, .bool false, .bool false]⟩] W2 := HSx; clear HSx))
  refine bodyPost_ret (results_cell_row Try.results9 _ _ g2 36 (#[.bool false, .bool false, .bool false, .bool false]) (0, 0) _ rfl (HS.row 0 rfl) Try.underlying36 rfl (by exact size_fat)) rfl ?_
  exact ⟨rfl, HS.below⟩
def headC (l : List Int) : Array Value := match l with | [] => #[.bool false, .bool false, .bool false, .bool false] | x :: _ => fatC x
set_option maxHeartbeats 800000 in
theorem take_any (g : Nat) (l : List Int) (w : World) (h : FatAt w g l) : Calls Try.prog 9 #[.pointer (some ⟨g, 0, none⟩)] w fun e w' => e = .returned (.agg (headC l)) ∧ FatAt w' g l.tail ∧ Chg (fun k => k = g) w w' := by
  obtain ⟨A, n, c, hr, hi⟩ := h
  have hln := ints_len hi
  cases l with
  | nil =>
    obtain rfl : n = 0 := hln.symm
    have HI := Lib.hid hi
    have HS := st_one hr
    clear hi hln hr
    show Calls Try.prog 9 _ w fun e w' => e = .returned (.agg #[.bool false, .bool false, .bool false, .bool false]) ∧ FatAt w' g [] ∧ Chg (fun k => k = g) w w'
    go_enter Try.func9, Try.ntmps9
    go_upto_region 1 with (first | ((with_reducible refine wpList_plain ?_ ?_); exact rfl; intro KK hKK; refine wp_st_alloc HS 36 (#[.bool false, .bool false, .bool false, .bool false]) rfl (.agg (#[.bool false, .bool false, .bool false, .bool false])) (by kernel_rfl) (rfl) (fun g2 W1 HSx => hKK _ _ ?_); clear hKK KK HS; have HS : St w (fun k => k = g) [⟨g, 27, #[.slice A 0 c]⟩, ⟨g2, 36, #[.bool false, .bool false, .bool false, .bool false]⟩] W1 := HSx; clear HSx))
    have c0 : W1.cell? ⟨g, 0, none⟩ = some (.slice A 0 c) := (HS.row 0 rfl).get rfl
    go_wp2_with (first | ((with_reducible refine wpList_plain ?_ ?_); exact rfl; intro KK hKK; refine wp_st_store HS 1 0 36 (.tmp 2) (.tmp 14) rfl rfl rfl (.agg (#[.bool false, .bool false, .bool false, .bool false])) rfl (by exact size_fat) (Nat.le_refl 4) (by simp [Value.cells, Value.oneCell']) (#[.bool false, .bool false, .bool false, .bool false]) (by exact spl_agg _ _ _ rfl rfl) (fun W2 HSx => hKK _ _ ?_); clear hKK KK HS; have HS : St w (fun k => k = g) [⟨g, 27, #[.slice A 0 c]⟩, ⟨g2, 36, #[.bool false, .bool false, .bool false, .bool false]⟩] W2 := HSx; clear HSx))
    refine bodyPost_ret (results_cell_row Try.results9 _ _ g2 36 (#[.bool false, .bool false, .bool false, .bool false]) (0, 0) _ rfl (HS.row 1 rfl) Try.underlying36 rfl (by exact size_fat)) rfl ?_
    have hI := HI.out
    exact ⟨rfl, ⟨A, 0, c, HS.row 0 rfl, by obtain ⟨A', c', e1, h2, h3, h4, _⟩ := hI; exact ⟨A', c', e1, h2, h3, h4, fun h => absurd rfl h⟩⟩, HS.chg⟩
  | cons x l =>
    simp only [List.length_cons] at hln
    obtain ⟨b, o, x', hx, rfl, hb, hc, _⟩ := ints_get hi (k := 0) (by simp)
    have hx : x = x' := by simpa using hx
    subst hx
    have hcp := (ints_cap hi).1
    obtain ⟨E, hE⟩ : ∃ E : Option Addr, (if c = 1 then some ⟨b, o, none⟩ else some ⟨b, o + 1, none⟩) = E := ⟨_, rfl⟩
    have ht := ints_tail hi
    rw [hE] at ht
    have HT := Lib.hid ht
    have HNE := Lib.hid (ints_ne hi hr sl_noint)
    have HE := Lib.hid hE
    have HBL := Lib.hid hb
    have HC := Lib.hid (show w.cell? ⟨b, o, none⟩ = some (.int .i64 x) from by simpa using hc)
    have hbg : b ≠ g := HNE.out b o rfl (by simp)
    have HBG := Lib.hid hbg
    have h0 : ((n : Int) == 0) = false := beq_eq_false_iff_ne.2 (by omega)
    have k1 : (0 : Int) < (n : Int) := by omega
    have k2 : 0 < n := by omega
    have k3 : (1 : Int) ≤ (n : Int) := by omega
    have k4 : (n : Int) ≤ (c : Int) := by omega
    have HKS := Lib.hid (And.intro k1 (And.intro k2 (And.intro k3 k4)))
    have HS := st_one hr
    clear hi hr hc hcp ht hE hb hbg k1 k2 k3 k4 hln
    show Calls Try.prog 9 _ w fun e w' => e = .returned (.agg (fatC x)) ∧ FatAt w' g l ∧ Chg (fun k => k = g) w w'
    go_enter Try.func9, Try.ntmps9
    go_upto_region 1 with (first | ((with_reducible refine wpList_plain ?_ ?_); exact rfl; intro KK hKK; refine wp_st_alloc HS 36 (#[.bool false, .bool false, .bool false, .bool false]) rfl (.agg (#[.bool false, .bool false, .bool false, .bool false])) (by kernel_rfl) (rfl) (fun g2 W1 HSx => hKK _ _ ?_); clear hKK KK HS; have HS : St w (fun k => k = g) [⟨g, 27, #[.slice (some ⟨b, o, none⟩) n c]⟩, ⟨g2, 36, #[.bool false, .bool false, .bool false, .bool false]⟩] W1 := HSx; clear HSx))
    have c0 : W1.cell? ⟨g, 0, none⟩ = some (.slice (some ⟨b, o, none⟩) n c) := (HS.row 0 rfl).get rfl
    have cx : W1.cell? ⟨b, o, none⟩ = some (.int .i64 x) := by
      have := HC.out
      unfold World.cell? at this ⊢
      rw [HS.chg.block b HBL.out HBG.out]
      exact this
    go_upto_region 3 with fail
    clear h0
    obtain ⟨k1, k2, k3, k4⟩ := HKS.out
    go_upto_region 4 with fail
    have hE := HE.out
    go_upto_region 5 with (first | ((with_reducible refine wpList_plain ?_ ?_); exact rfl; intro KK hKK; refine wp_st_put HS 0 0 25 (.tmp 28) (.tmp 26) rfl rfl rfl (.slice E (n - 1) (c - 1)) rfl (by kernel_rfl) rfl rfl (by show 0 < 1; decide) (#[.slice E (n - 1) (c - 1)]) (by exact rfl) (fun W2 HSx => hKK _ _ ?_); clear hKK KK HS; have HS : St w (fun k => k = g) [⟨g, 27, #[.slice E (n - 1) (c - 1)]⟩, ⟨g2, 36, #[.bool false, .bool false, .bool false, .bool false]⟩] W2 := HSx; clear HSx))
    clear c0 cx k1 k2 k3 k4 hE
    have CO := of_any x W2
    go_wp2_with fail
    refine CO.mono ?_
    rintro e w5 ⟨rfl, hb5⟩
    have HSx := HS.same hb5
    clear HS CO hb5
    have HS := HSx
    clear HSx
    go_wp2_with (first | ((with_reducible refine wpList_plain ?_ ?_); exact rfl; intro KK hKK; refine wp_st_store HS 1 0 36 (.tmp 2) (.tmp 30) rfl rfl rfl (.agg (fatC x)) rfl (by exact size_fatC _) (Nat.le_of_eq (by rw [Nat.zero_add]; exact fatC_size _)) (by exact one_fatC _) (fatC x) (by exact spl_agg _ _ _ rfl (by rw [fatC_size]; rfl)) (fun W3 HSx => hKK _ _ ?_); clear hKK KK HS; have HS : St w (fun k => k = g) [⟨g, 27, #[.slice E (n - 1) (c - 1)]⟩, ⟨g2, 36, fatC x⟩] W3 := HSx; clear HSx))
    refine bodyPost_ret (results_cell_row Try.results9 _ _ g2 36 (fatC x) (0, 0) _ rfl (HS.row 1 rfl) Try.underlying36 rfl (by exact size_fatC x)) rfl ?_
    refine ⟨rfl, ⟨E, n - 1, c - 1, HS.row 0 rfl, ints_chg (cs := #[]) HT.out HS.chg ?_ rfl⟩, HS.chg⟩
    intro b' o' e _
    have := HE.out
    rw [e] at this
    split at this <;> (injection this with this; injection this with this _; rw [← this]; exact HBG.out)
theorem all_nil (w : World) : Calls Try.prog 14 #[.pointer none] w fun e w' => e = .returned (.slice none 0 0) ∧ w = w' := by
  go_enter Try.func14, Try.ntmps14
  go_wp2_with fail
  go_ret
  exact ⟨rfl, rfl⟩
theorem all_any (g : Nat) (l : List Int) (w : World) (h : FatAt w g l) (hl : l.length ≤ 1000) : Calls Try.prog 14 #[.pointer (some ⟨g, 0, none⟩)] w fun e w' => ∃ v, e = .returned v ∧ w'.ownsRow w.heap.size 3 1 v l.length (intsV l) ∧ Below w.heap.size w w' := by
  obtain ⟨A, n, c, hr, hi⟩ := h
  have hln := ints_len hi
  subst hln
  have c0 : w.cell? ⟨g, 0, none⟩ = some (.slice A l.length c) := hr.get rfl
  have C := clone_ints A l.length c l w hi (by omega)
  generalize l.length = n at *
  clear hr hi
  go_enter Try.func14, Try.ntmps14
  go_wp2_with fail
  refine C.mono ?_
  rintro e w2 ⟨v, rfl, ho, hb⟩
  go_wp2_with fail
  go_ret
  exact ⟨_, rfl, ho, hb⟩
end Go.Proofs.Ytlncdokeecmnjaa
