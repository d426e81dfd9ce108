/- Grow (of none) and Concat (of two) of ints. -/
import Derived.Test.YtlncdokeecmnjaaFatFun
import Derived.Test.YtlncdokeecmnjaaZerosB
set_option maxRecDepth 4000
namespace Go.Proofs.Ytlncdokeecmnjaa
open Go Go.RowKit
def zI (m : Nat) : Array Value := Builtin.zeroCells (Value.int .i64 0).cells m
theorem run_zerosI (w : World) (ty : TypeId) (m : Nat) (h0 : 0 < m) (hm : m ≤ 1000000) :
    (Builtin.append_ #[25, 3] ty #[.slice none 0 0, .int .i64 (m : Int)]).run Try.prog w =
      .ok (.slice (some ⟨w.heap.size, 0, none⟩) m (grownCap w m 0 3)) (w.drew.alloc (.cells (zI m ++ zI (grownCap w m 0 3 - m)) 3)) := by
  obtain ⟨i, hi, hz, hs, hby⟩ := info_parts info_int
  have hw : IntKind.i64.wrap (m : Int) = (m : Int) := i64_id _ (by omega) (by omega)
  have h48 : ¬ (281474976710656 < (m : Int) * 8) := by omega
  have hn : m ≠ 0 := by omega
  have h63' : ¬ (9223372036854775807 < (m : Int)) := by omega
  have h48' : ¬ (281474976710656 < Builtin.nextslicecap m 0 * 8) := by rw [nextslicecap_zero h0]; omega
  unfold zI
  simp [Builtin.append_, run_underlying Try.underlying25, run_underlying Try.underlying3, sizeOf, typeInfo, zeroValue, hi, hz, hs, hby, hw, asInt, asIntOf, h48, hn, h63', h48', Question.forced, run_firstCells_none, newRow, grownCap]
  intro h; omega
theorem wpl_zerosI {w : World} {ops : Array Oper} {rest : List Oper} {o : Oper} {a : Act} {Q : Exit → Act → World → Prop} (hgd : o.guard = none) (s x : Operand)
    (ho : o.op = .call { callee := .builtin .append, args := #[s, x], argTypes := #[25, 3] }) (hs : a.eval s = .slice none 0 0) (m : Nat) (hx : a.eval x = .int .i64 (m : Int)) (h0 : 0 < m) (hm : m ≤ 1000000)
    (h : ∀ cap w', m ≤ cap → w'.ownsRow w.heap.size 3 1 (.slice (some ⟨w.heap.size, 0, none⟩) 0 cap) 0 (intsV []) → Below w.heap.size w w' → wpList Try.prog ops Q rest (a.put o.dst (.slice (some ⟨w.heap.size, 0, none⟩) m cap)) w') : wpList Try.prog ops Q (o :: rest) a w := by
  refine wpList_plain hgd fun K hK => ?_
  unfold Oper.wp execOp
  simp only [ho, resolve, invoke, builtin, Sem.run_bind, Sem.run_pure, Result.andThen_ok, List.map_toArray, List.map_cons, List.map_nil, hs, hx, run_zerosI w o.type m h0 hm]
  have hge := grownCap_ge w m 0 3
  refine hK _ _ (h _ _ hge ⟨rfl, .inr ⟨w.heap.size, _, _, rfl, Nat.le_refl _, heap_alloc_new w.drew _, Nat.zero_le _, grownCap_le_maxLen w m 0 3 (by unfold maxLen; omega), ?_, rfl⟩⟩ (((Below.refl _ _).drew).alloc (Nat.le_refl _) _))
  unfold zI
  simp only [Array.size_append, size_zeroCells, Value.cells]
  simp
  omega
set_option maxHeartbeats 800000 in
theorem grow_any (m : Nat) (w : World) (hm : m ≤ 1000000) :
    Calls Try.prog 22 #[.slice none 0 0, .int .i64 (m : Int)] w fun e w' => ∃ v, e = .returned v ∧ w'.ownsRow w.heap.size 3 1 v 0 (intsV []) ∧ Below w.heap.size w w' := by
  have hw : IntKind.i64.wrap (m : Int) = (m : Int) := i64_id _ (by omega) (by omega)
  have h1 : decide ((m : Int) < 0) = false := decide_eq_false (by omega)
  by_cases h0 : m = 0
  · subst h0
    clear hw h1
    go_enter Try.func22, Try.ntmps22
    go_wp2_with fail
    go_ret
    exact ⟨_, rfl, World.ownsRow_nil _ _ _ _, Below.refl _ _⟩
  · have h2 : decide (0 < (m : Int)) = true := decide_eq_true (by omega)
    have h3 : 0 < m := by omega
    go_enter Try.func22, Try.ntmps22
    go_wp2_with (at_builtin; refine wpl_zerosI rfl (.tmp 20) (.tmp 21) rfl rfl m rfl h3 hm ?_; intro cap w4 hcap own1 hb4; have HO := Lib.hid own1; have HB := Lib.hid hb4; clear own1 hb4)
    go_ret
    exact ⟨_, rfl, HO.out, HB.out⟩
set_option maxHeartbeats 1600000 in
theorem concat_any (g : Nat) (A1 A2 : Option Addr) (n1 n2 c1 c2 : Nat) (l1 l2 : List Int) (w : World) (d0 : w.cell? ⟨g, 0, none⟩ = some (.slice A1 n1 c1)) (d1 : w.cell? ⟨g, 1, none⟩ = some (.slice A2 n2 c2)) (hg : g < w.heap.size)
    (h1 : IntsAt w (.slice A1 n1 c1) l1) (h2 : IntsAt w (.slice A2 n2 c2) l2) (hn1 : n1 ≤ 1000) (hn2 : n2 ≤ 1000) :
    Calls Try.prog 19 #[.slice (some ⟨g, 0, none⟩) 2 2] w fun e w' => ∃ v, e = .returned v ∧ w'.ownsRow w.heap.size 3 1 v (n1 + n2) (intsV (l1 ++ l2)) ∧ Below w.heap.size w w' := by
  have HL1 := Lib.hid (ints_len h1)
  have HL2 := Lib.hid (ints_len h2)
  have H1 := Lib.hid h1
  have H2 := Lib.hid h2
  have HG := Lib.hid hg
  have D0 := Lib.hid d0
  have D1 := Lib.hid d1
  clear h1 h2 hg
  go_enter Try.func19, Try.ntmps19
  go_wp2_with fail
  go_loopw [3, 11] (fun s i wr => ∃ k : Nat, k ≤ 2 ∧ i = .int .i64 k ∧ s = .int .i64 (((if k = 0 then 0 else if k = 1 then n1 else n1 + n2 : Nat)) : Int) ∧ w = wr) (fun _ i _ => 2 - (intOf i).toNat)
  case atStart => exact ⟨0, by omega, rfl, rfl, rfl⟩
  case round =>
    obtain ⟨k, hk, rfl, rfl, rfl⟩ := hrel
    have hz1 : decide ((n1 : Int) < 0) = false := decide_eq_false (by omega)
    have hz2 : decide (((n1 + n2 : Nat) : Int) < 0) = false := decide_eq_false (by omega)
    have hw1 : IntKind.i64.wrap (0 + (n1 : Int)) = (n1 : Int) := by rw [i64_id _ (by omega) (by omega)]; omega
    have hw1' : IntKind.i64.wrap (n1 : Int) = (n1 : Int) := i64_id _ (by omega) (by omega)
    have hw2 : IntKind.i64.wrap ((n1 : Int) + (n2 : Int)) = ((n1 + n2 : Nat) : Int) := by rw [i64_id _ (by omega) (by omega)]; omega
    obtain rfl | rfl | rfl : k = 0 ∨ k = 1 ∨ k = 2 := by omega
    · go_wp2_with fail
      exact ⟨⟨1, by omega, rfl, rfl, by first | rfl | trivial⟩, by simp [intOf]⟩
    · obtain ⟨N, hN⟩ : ∃ N, n1 + n2 = N := ⟨_, rfl⟩
      rw [hN] at hz2 hw2
      have HN := Lib.hid hN
      clear hN
      simp only [if_true, if_false, Nat.one_ne_zero]
      go_wp2_with fail
      exact ⟨⟨2, by omega, rfl, by rw [← HN.out]; rfl, by first | rfl | trivial⟩, by simp [intOf]⟩
    · obtain ⟨N, hN⟩ : ∃ N, n1 + n2 = N := ⟨_, rfl⟩
      have HN := Lib.hid hN
      have CG := grow_any N w (by omega)
      clear hz1 hz2 hw1 hw1' hw2
      simp only [show ¬ (2 = 0) from by decide, show ¬ (2 = 1) from by decide, if_false, hN]
      clear hN
      go_wp2_with fail
      refine CG.mono ?_
      rintro e w2 ⟨v, rfl, ho, hb⟩
      have HO := Lib.hid ho
      have HB := Lib.hid hb
      clear CG ho hb d0 d1
      go_wp2_with fail
      go_loopw [6, 27] (fun v i wr => ∃ k : Nat, k ≤ 2 ∧ i = .int .i64 k ∧ wr.ownsRow w.heap.size 3 1 v (if k = 0 then 0 else if k = 1 then n1 else n1 + n2) (intsV (if k = 0 then [] else if k = 1 then l1 else l1 ++ l2)) ∧ Below w.heap.size w wr) (fun _ i _ => 2 - (intOf i).toNat)
      case atStart => exact ⟨0, by omega, rfl, HO.out, HB.out⟩
      case round =>
        obtain ⟨k, hk, rfl, ho, hb⟩ := hrel
        have d0 : wr.cell? ⟨g, 0, none⟩ = some (.slice A1 n1 c1) := (hb.cell (p := ⟨g, 0, none⟩) HG.out).trans D0.out
        have d1 : wr.cell? ⟨g, 1, none⟩ = some (.slice A2 n2 c2) := (hb.cell (p := ⟨g, 1, none⟩) HG.out).trans D1.out
        have HOr := Lib.hid ho
        have HBr := Lib.hid hb
        clear ho hb HO HB
        obtain rfl | rfl | rfl : k = 0 ∨ k = 1 ∨ k = 2 := by omega
        · go_wp2_with ((with_reducible refine wpList_plain ?_ ?_); exact rfl; intro KK hKK; refine wp_append_ints (.tmp 31) (.tmp 32) rfl w.heap.size _ 0 [] rfl HOr.out A1 n1 c1 l1 rfl (H1.out.below HBr.out (Nat.le_refl _)) (by omega) HBr.out.size (fun kv w4 own1 hb4 => hKK _ _ ?_); clear hKK KK; have HO4 := Lib.hid own1; have HB4 := Lib.hid (HBr.out.trans hb4); clear own1 hb4)
          exact ⟨⟨1, by omega, rfl, by have := HO4.out; rw [Nat.zero_add, List.nil_append] at this; exact this, HB4.out⟩, by simp [intOf]⟩
        · go_wp2_with ((with_reducible refine wpList_plain ?_ ?_); exact rfl; intro KK hKK; refine wp_append_ints (.tmp 31) (.tmp 32) rfl w.heap.size _ n1 l1 rfl HOr.out A2 n2 c2 l2 rfl (H2.out.below HBr.out (Nat.le_refl _)) (by omega) HBr.out.size (fun kv w4 own1 hb4 => hKK _ _ ?_); clear hKK KK; have HO4 := Lib.hid own1; have HB4 := Lib.hid (HBr.out.trans hb4); clear own1 hb4)
          exact ⟨⟨2, by omega, rfl, HO4.out, HB4.out⟩, by simp [intOf]⟩
        · clear d0 d1
          go_wp2_with fail
          go_ret
          exact ⟨_, rfl, HOr.out, HBr.out⟩
end Go.Proofs.Ytlncdokeecmnjaa
