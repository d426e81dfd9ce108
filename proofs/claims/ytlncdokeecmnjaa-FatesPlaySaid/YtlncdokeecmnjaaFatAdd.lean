/- Add; fates compared; the example of fates' statements. -/
import Derived.Test.YtlncdokeecmnjaaFatPrg
import Derived.Laws.StructEq
set_option maxRecDepth 4000
namespace Go.Proofs.Ytlncdokeecmnjaa
open Go Go.RowKit
def addE (l l2 : List Int) : Int := if anyNone l2 then 1 else if 64 < l.length + l2.length then 19 else 0
def addL (l l2 : List Int) : List Int := if anyNone l2 then l else if 64 < l.length + l2.length then l else l ++ l2
theorem ints_bd {w : World} {A : Option Addr} {n c : Nat} {l : List Int} (h : IntsAt w (.slice A n c) l) : ∀ x ∈ l, -9223372036854775808 ≤ x ∧ x < 9223372036854775808 := fun x hx => by
  obtain ⟨k, hk, e⟩ := List.getElem_of_mem hx
  obtain ⟨b, o, y, hy, _, _, _, h1, h2⟩ := ints_get h hk
  rw [List.getElem?_eq_getElem hk, e] at hy
  cases hy
  exact ⟨h1, h2⟩
theorem add_nil (v : Value) (w : World) : Calls Try.prog 11 #[.pointer none, v] w fun e w' => e = .returned (.int .i64 1) ∧ w = w' := by
  go_enter Try.func11, Try.ntmps11
  go_wp2_with fail
  go_ret
  exact ⟨rfl, rfl⟩
set_option maxHeartbeats 800000 in
theorem add_any (g : Nat) (l : List Int) (A2 : Option Addr) (n2 c2 : Nat) (l2 : List Int) (w : World) (h : FatAt w g l) (h2 : IntsAt w (.slice A2 n2 c2) l2) (hn2 : n2 ≤ 1000) (hl : l.length ≤ 64) :
    Calls Try.prog 11 #[.pointer (some ⟨g, 0, none⟩), .slice A2 n2 c2] w fun e w' => e = .returned (.int .i64 (addE l l2)) ∧ FatAt w' g (addL l l2) ∧ Chg (fun k => k = g) w w' := by
  have hfat := Lib.hid h
  obtain ⟨A, n, c, hr, hi⟩ := h
  have hln := ints_len hi
  have hln2 := ints_len h2
  have CC := contains_any A2 n2 c2 l2 w h2
  cases ha : anyNone l2 with
  | true =>
    rw [ha] at CC
    have hE : addE l l2 = 1 := by unfold addE; rw [ha]; rfl
    have hL : addL l l2 = l := by unfold addL; rw [ha]; rfl
    rw [hE, hL]
    clear hE hL ha hr hi hln hln2 h2
    unfold fnNone at CC
    go_enter Try.func11, Try.ntmps11
    go_wp2_with fail
    refine CC.mono ?_
    rintro e w2 ⟨rfl, rfl⟩
    clear CC
    go_wp2_with fail
    go_ret
    exact ⟨rfl, hfat.out, Chg.refl _ _⟩
  | false =>
    rw [ha] at CC
    have hw64 : IntKind.i64.wrap (64 - (n : Int)) = 64 - (n : Int) := by rw [IntKind.wrap_i64]; omega
    have c0 : w.cell? ⟨g, 0, none⟩ = some (.slice A n c) := hr.get rfl
    by_cases hbig : 64 < n + n2
    · have hE : addE l l2 = 19 := by unfold addE; rw [ha, hln, hln2]; simp [hbig]
      have hL : addL l l2 = l := by unfold addL; rw [ha, hln, hln2]; simp [hbig]
      have hd : decide (64 - (n : Int) < (n2 : Int)) = true := decide_eq_true (by omega)
      rw [hE, hL]
      clear hE hL ha hr hi hln hln2 h2 hbig
      unfold fnNone at CC
      go_enter Try.func11, Try.ntmps11
      go_wp2_with fail
      refine CC.mono ?_
      rintro e w2 ⟨rfl, rfl⟩
      clear CC
      go_wp2_with fail
      go_ret
      exact ⟨rfl, hfat.out, Chg.refl _ _⟩
    · have hE : addE l l2 = 0 := by unfold addE; rw [ha, hln, hln2]; simp [hbig]
      have hL : addL l l2 = l ++ l2 := by unfold addL; rw [ha, hln, hln2]; simp [hbig]
      have hd : decide (64 - (n : Int) < (n2 : Int)) = false := decide_eq_false (by omega)
      rw [hE, hL]
      have HBD := Lib.hid (And.intro (ints_bd hi) (ints_bd h2))
      have hba : Below w.heap.size w (w.alloc (.cells #[.slice A n c, .slice A2 n2 c2] 25)) := (Below.refl _ _).alloc (Nat.le_refl _) _
      have hrow := Row.fresh w 25 #[.slice A n c, .slice A2 n2 c2]
      have CN := concat_any w.heap.size A A2 n n2 c c2 l l2 (w.alloc (.cells #[.slice A n c, .slice A2 n2 c2] 25)) (hrow.get rfl) (hrow.get rfl) (by simp) (hi.below hba (Nat.le_refl _)) (h2.below hba (Nat.le_refl _)) (by omega) (by omega)
      have HS := (st_one hr).same hba
      have HL1 := Lib.hid (And.intro hln hln2)
      clear hE hL ha hr hi hln hln2 h2 hba hrow hfat
      unfold fnNone at CC
      go_enter Try.func11, Try.ntmps11
      go_wp2_with fail
      refine CC.mono ?_
      rintro e w2 ⟨rfl, rfl⟩
      clear CC
      go_upto_region 5 with fail
      clear hd hw64 hbig
      go_wp2_with fail
      refine CN.mono ?_
      rintro e w3 ⟨v, rfl, ho, hb⟩
      obtain ⟨A3, c3, rfl, _⟩ := own_slice_form ho
      have HI := Lib.hid (ints_own ho (fun x hx => (List.mem_append.1 hx).elim (HBD.out.1 x) (HBD.out.2 x)))
      have HSx := HS.same hb
      clear HS CN ho hb
      have HS := HSx
      clear HSx
      have HNE := Lib.hid (ints_ne HI.out (HS.row 0 rfl) sl_noint)
      have HR3 : Hid (Row w3 g 27 #[.slice A n c]) := Lib.hid (HS.row 0 rfl)
      have HC3 := Lib.hid HS.chg
      have HT := st_one HR3.out
      clear HS c0
      go_wp2_with (first | ((with_reducible refine wpList_plain ?_ ?_); exact rfl; intro KK hKK; refine wp_st_put HT 0 0 25 (.tmp 29) (.tmp 27) rfl rfl rfl (.slice A3 (n + n2) c3) rfl (by kernel_rfl) rfl rfl (by show 0 < 1; decide) (#[.slice A3 (n + n2) c3]) (by exact rfl) (fun W4 HTx => hKK _ _ ?_); clear hKK KK HT; have HT : St w3 (fun k => k = g) [⟨g, 27, #[.slice A3 (n + n2) c3]⟩] W4 := HTx; clear HTx))
      go_ret
      exact ⟨rfl, ⟨A3, n + n2, c3, HT.row 0 rfl, ints_chg (cs := #[]) HI.out HT.chg (fun b o e hne => HNE.out b o e hne) rfl⟩, HC3.out.trans HT.chg (fun i h => .inl h)⟩
theorem eql_fat (a b c d a' b' c' d' : Bool) (w : World) : (Op.equalIn 10000 36 (.agg #[.bool a, .bool b, .bool c, .bool d]) (.agg #[.bool a', .bool b', .bool c', .bool d'])).run Try.prog w = .ok (a == a' && (b == b' && (c == c' && d == d'))) w := by
  have hS : Try.prog.underlying 36 = some (.struct (Try.prog.fieldsOf 36)) := by kernel_rfl
  rw [show (10000 : Nat) = 9999 + 1 from rfl, run_equalIn_agg w 9999 36 _ _ hS (by kernel_rfl)]
  have u3 := Try.underlying4
  simp only [Program.fieldsOf, Try.underlying36]
  go_simp
  cases a <;> cases a' <;> cases b <;> cases b' <;> cases c <;> cases c' <;> cases d <;> cases d' <;> rfl
end Go.Proofs.Ytlncdokeecmnjaa
