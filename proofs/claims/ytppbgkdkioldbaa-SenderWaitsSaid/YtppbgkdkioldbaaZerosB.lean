/- An append of so many zeros onto a slice of bytes of the call's own. -/
import Derived.Test.YtppbgkdkioldbaaSl
set_option maxRecDepth 4000
namespace Go.Proofs.Ytppbgkdkioldbaa
open Go Go.RowKit
theorem zeroCells_zer (m : Nat) : Builtin.zeroCells (Value.int .u8 0).cells m = bs (zer m) := by
  have e : bs (zer m) = (List.replicate m (Value.int .u8 0)).toArray := by simp [bs, zer, bd]
  rw [e]
  apply Array.ext_getElem?
  intro j
  by_cases hj : j < m
  · simp [Builtin.zeroCells, Value.cells, hj, Nat.mod_one]
  · simp [Builtin.zeroCells, Value.cells, hj]
section
variable (w : World)
theorem run_zeros_room (ty : TypeId) (g n cap m : Nat) (cur : Array Value) (hg : w.heap[g]? = some (.cells cur 5 (0, 0))) (hroom : n + m ≤ cap) (hfit : n + m ≤ cur.size) (hm : m ≤ 1000000) :
    (Builtin.append_ #[56, 3] ty #[.slice (some ⟨g, 0, none⟩) n cap, .int .i64 (m : Int)]).run Try.prog w =
      .ok (.slice (some ⟨g, 0, none⟩) (n + m) cap) (w.setRow g (cur.toList.take n ++ bytesV (zer m) ++ cur.toList.drop (n + (bytesV (zer m)).length)).toArray) := by
  obtain ⟨i, hi, hz, hs, hby⟩ := info_parts info_u8
  have hw : IntKind.i64.wrap (m : Int) = (m : Int) := i64_id _ (by omega) (by omega)
  have hst := run_storeCells_at Try.prog g n 5 (bytesV (zer m)) 0 cur w hg (by simp [bytesV, zer]; omega) (one_bytesV _)
  simp only [Nat.add_zero] at hst
  have h48 : ¬ (281474976710656 < (m : Int)) := by omega
  by_cases h0 : m = 0
  · subst h0
    rw [show bytesV (zer 0) = [] from rfl] at hst ⊢
    simp only [Int.natCast_zero] at hw
    simp [Builtin.append_, run_underlying Try.underlying56, run_underlying Try.underlying3, sizeOf, typeInfo, hi, hs, hby, hw, asInt, asIntOf, Addr.add_lit, hst]
    omega
  · simp [Builtin.append_, run_underlying Try.underlying56, run_underlying Try.underlying3, sizeOf, typeInfo, zeroValue, hi, hz, hs, hby, hw, asInt, asIntOf, hroom, h48, h0, zeroCells_zer, bs_toList, Addr.add_lit, hst]
    intro h; omega
theorem run_zeros_nil (ty : TypeId) (m : Nat) (h0 : 0 < m) (hm : m ≤ 1000000) :
    (Builtin.append_ #[56, 3] ty #[.slice none 0 0, .int .i64 (m : Int)]).run Try.prog w =
      .ok (.slice (some ⟨w.heap.size, 0, none⟩) m (grownCap w m 0 5)) (w.drew.alloc (.cells (bs (zer m) ++ Builtin.zeroCells (Value.int .u8 0).cells (grownCap w m 0 5 - m)) 5)) := by
  obtain ⟨i, hi, hz, hs, hby⟩ := info_parts info_u8
  have hw : IntKind.i64.wrap (m : Int) = (m : Int) := i64_id _ (by omega) (by omega)
  have h48 : ¬ (281474976710656 < (m : Int)) := by omega
  have hn : m ≠ 0 := by omega
  have h63' : ¬ (9223372036854775807 < (m : Int)) := by omega
  have h48' : ¬ (281474976710656 < Builtin.nextslicecap m 0) := by rw [nextslicecap_zero h0]; omega
  simp [Builtin.append_, run_underlying Try.underlying56, run_underlying Try.underlying3, sizeOf, typeInfo, zeroValue, hi, hz, hs, hby, hw, asInt, asIntOf, h48, hn, h63', h48', Question.forced, run_firstCells_none, newRow, grownCap, zeroCells_zer]
  intro h; omega
theorem run_zeros_grow (ty : TypeId) (b : Addr) (n cap m : Nat) (olds : List Value) (hlo : olds.length = n) (holds : ∀ j v, olds[j]? = some v → w.cell? (b.add j) = some v) (hg : cap < n + m) (hm : n + m ≤ 1000000) :
    (Builtin.append_ #[56, 3] ty #[.slice (some b) n cap, .int .i64 (m : Int)]).run Try.prog w =
      .ok (.slice (some ⟨w.heap.size, 0, none⟩) (n + m) (grownCap w (n + m) cap 5)) (w.drew.alloc (.cells (olds.toArray ++ (bs (zer m) ++ Builtin.zeroCells (Value.int .u8 0).cells (grownCap w (n + m) cap 5 - (n + m)))) 5)) := by
  obtain ⟨i, hi, hz, hs, hby⟩ := info_parts info_u8
  have hw : IntKind.i64.wrap (m : Int) = (m : Int) := i64_id _ (by omega) (by omega)
  have h48 : ¬ (281474976710656 < (m : Int)) := by omega
  have hn : ¬ (n + m ≤ cap) := by omega
  have h63' : ¬ (9223372036854775807 < ((n : Int) + (m : Int))) := by omega
  have h48' : ¬ (281474976710656 < Builtin.nextslicecap (n + m) cap) := by have := nextslicecap_le hg; omega
  have hfo := run_firstCells_some (P := Try.prog) w.drew 1 n b n cap olds (by omega) (by simpa using holds)
  by_cases h0 : m = 0
  · subst h0
    rw [show bs (zer 0) = #[] from rfl]
    simp only [Int.natCast_zero] at hw
    simp only [Nat.add_zero] at hn h48'
    have h63n : ¬ (9223372036854775807 < (n : Int)) := by omega
    simp [Builtin.append_, run_underlying Try.underlying56, run_underlying Try.underlying3, sizeOf, typeInfo, zeroValue, hi, hz, hs, hby, hw, asInt, asIntOf, hn, h63n, h48', Question.forced, hfo, newRow, grownCap]
  · simp [Builtin.append_, run_underlying Try.underlying56, run_underlying Try.underlying3, sizeOf, typeInfo, zeroValue, hi, hz, hs, hby, hw, asInt, asIntOf, h48, h0, hn, h63', h48', Question.forced, hfo, newRow, grownCap, zeroCells_zer]
    intro h; omega
theorem run_append_zeros (ty : TypeId) (base : Nat) (v : Value) (n : Nat) (xs : List Value) (hown : w.ownsRow base 5 1 v n xs) (m : Nat) (hm : n + m ≤ 1000000) (hbase : base ≤ w.heap.size) :
    ∃ v' w', (Builtin.append_ #[56, 3] ty #[v, .int .i64 (m : Int)]).run Try.prog w = .ok v' w' ∧ w'.ownsRow base 5 1 v' (n + m) (xs ++ bytesV (zer m)) ∧ w.grownBy w' v.ownBlock := by
  have hlz : (bytesV (zer m)).length = m := by simp [bytesV, zer]
  have hxl : xs.length = n := by simpa using hown.1
  have hlen : (xs ++ bytesV (zer m)).length = (n + m) * 1 := by rw [List.length_append, hxl, hlz, Nat.mul_one]
  have grown : ∀ (old : Nat), ∀ (row : Option Nat),
      (w.drew.alloc (.cells (xs.toArray ++ (bs (zer m) ++ Builtin.zeroCells (Value.int .u8 0).cells (grownCap w (n + m) old 5 - (n + m)))) 5)).ownsRow base 5 1
        (.slice (some ⟨w.heap.size, 0, none⟩) (n + m) (grownCap w (n + m) old 5)) (n + m) (xs ++ bytesV (zer m)) ∧
      w.grownBy (w.drew.alloc (.cells (xs.toArray ++ (bs (zer m) ++ Builtin.zeroCells (Value.int .u8 0).cells (grownCap w (n + m) old 5 - (n + m)))) 5)) row := by
    intro old row
    have hge := grownCap_ge w (n + m) old 5
    have hcm : grownCap w (n + m) old 5 ≤ maxLen := grownCap_le_maxLen w (n + m) old 5 (by unfold maxLen; omega)
    refine ⟨⟨hlen, .inr ⟨w.heap.size, _, _, rfl, hbase, heap_alloc_new w.drew _, hge, hcm, ?_, ?_⟩⟩, ⟨rfl, rfl, rfl, by simp, fun k hk _ => Below.heap_alloc w.drew _ k hk⟩⟩
    · simp only [Array.size_append, List.size_toArray, size_zeroCells, size_bs, length_zer, Value.cells, hxl]
      simp
      omega
    · simp only [Array.toList_append, bs_toList]
      rw [← List.append_assoc, ← hlen]
      exact List.take_left
  rcases hown.2 with ⟨rfl, rfl⟩ | ⟨g, cap, cur, rfl, hbg, hg, hnc, hcm, hcs, htake⟩
  · obtain rfl : xs = [] := List.length_eq_zero_iff.1 hxl
    by_cases h0 : m = 0
    · subst h0
      refine ⟨.slice none 0 0, w, ?_, World.ownsRow_nil w base _ _, ⟨rfl, rfl, rfl, Nat.le_refl _, fun _ _ _ => rfl⟩⟩
      obtain ⟨i, hi, _, _, hby⟩ := info_parts info_u8
      have hw : IntKind.i64.wrap 0 = 0 := i64_id _ (by omega) (by omega)
      simp [Builtin.append_, run_underlying Try.underlying56, run_underlying Try.underlying3, sizeOf, typeInfo, hi, hby, hw, asInt, asIntOf]
    · have hgr := grown 0 (Value.ownBlock (.slice none 0 0))
      have hr := run_zeros_nil w ty m (by omega) (by omega)
      simp only [Nat.zero_add, List.nil_append] at hgr ⊢
      rw [show (([] : List Value).toArray ++ (bs (zer m) ++ Builtin.zeroCells (Value.int .u8 0).cells (grownCap w m 0 5 - m))) = bs (zer m) ++ Builtin.zeroCells (Value.int .u8 0).cells (grownCap w m 0 5 - m) by simp] at hgr
      exact ⟨_, _, hr, hgr.1, hgr.2⟩
  · by_cases hroom : n + m ≤ cap
    · have hr := run_zeros_room w ty g n cap m cur hg hroom (by omega) (by omega)
      refine ⟨_, _, hr, ⟨hlen, .inr ⟨g, cap, _, rfl, hbg, setRow_heap w g cur _ _ _ hg, hroom, hcm, ?_, ?_⟩⟩, ⟨rfl, rfl, rfl, by simp, fun k _ hk => setRow_other w g k _ (fun e => hk (by simp [Value.ownBlock, e]))⟩⟩
      · simp only [List.size_toArray, List.length_append, List.length_take, List.length_drop, Array.length_toList, hlz]
        omega
      · rw [Nat.mul_one] at htake
        rw [htake, ← hlen]
        exact List.take_left
    · have hr := run_zeros_grow w ty ⟨g, 0, none⟩ n cap m xs hxl (hown.cells (g := g) rfl) (by omega) hm
      have hgr := grown cap (Value.ownBlock (.slice (some ⟨g, 0, none⟩) n cap))
      exact ⟨_, _, hr, hgr.1, hgr.2⟩
end
theorem wp_append_zeros {w : World} {o : Oper} {a : Act} {K : Act → World → Prop} {Q : Exit → Act → World → Prop} (s x : Operand)
    (ho : o.op = .call { callee := .builtin .append, args := #[s, x], argTypes := #[56, 3] }) (base : Nat)
    (v : Value) (n : Nat) (xs : List Value) (hs : a.eval s = v) (hown : w.ownsRow base 5 1 v n xs) (M : Int) (m : Nat) (hx : a.eval x = .int .i64 M) (hM : M = (m : Int))
    (hnm : n + m ≤ 1000000) (hbase : base ≤ w.heap.size)
    (h : ∀ v' w', w'.ownsRow base 5 1 v' (n + m) (xs ++ bytesV (zer m)) → Below base w w' → K (a.put o.dst v') w') : o.wp Try.prog a w K Q := by
  subst hM
  obtain ⟨v', w', hr, h2, h3⟩ := run_append_zeros w o.type base v n xs hown m hnm hbase
  unfold Oper.wp execOp
  simp only [ho, resolve, invoke, builtin, Sem.run_bind, Sem.run_pure, Result.andThen_ok, List.map_toArray, List.map_cons, List.map_nil, hs, hx, hr]
  exact h v' w' h2 (below_of_grown h3 (fun g hg => (hown.lt g hg).1) hbase)
theorem wpList_append_zeros {w : World} {ops : Array Oper} {rest : List Oper} {o : Oper} {a : Act} {Q : Exit → Act → World → Prop} (hgd : o.guard = none) (s x : Operand)
    (ho : o.op = .call { callee := .builtin .append, args := #[s, x], argTypes := #[56, 3] }) (base : Nat)
    (v : Value) (n : Nat) (xs : List Value) (hs : a.eval s = v) (hown : w.ownsRow base 5 1 v n xs) (M : Int) (m : Nat) (hx : a.eval x = .int .i64 M) (hM : M = (m : Int))
    (hnm : n + m ≤ 1000000) (hbase : base ≤ w.heap.size)
    (h : ∀ v' w', w'.ownsRow base 5 1 v' (n + m) (xs ++ bytesV (zer m)) → Below base w w' → wpList Try.prog ops Q rest (a.put o.dst v') w') : wpList Try.prog ops Q (o :: rest) a w := by
  subst hM
  refine wpList_plain hgd fun K hK => ?_
  obtain ⟨v', w', hr, h2, h3⟩ := run_append_zeros w o.type base v n xs hown m hnm hbase
  unfold Oper.wp execOp
  simp only [ho, resolve, invoke, builtin, Sem.run_bind, Sem.run_pure, Result.andThen_ok, List.map_toArray, List.map_cons, List.map_nil, hs, hx, hr]
  exact hK _ _ (h v' w' h2 (below_of_grown h3 (fun g hg => (hown.lt g hg).1) hbase))
end Go.Proofs.Ytppbgkdkioldbaa
