/- A copy of bytes into a block of the call's own. -/
import Derived.Test.YtnfceejmkcohnaaDoorPartsG
namespace Go.Proofs.YtnfceejmkcohnaaDoor
open Go Go.RowKit
theorem grown_setRow (w : World) (g : Nat) (cs : Array Value) : w.grownBy (w.setRow g cs) (some g) :=
  ⟨rfl, rfl, rfl, by rw [size_setRow]; exact Nat.le_refl _, fun k _ hk => setRow_other w g k cs (fun e => hk (by rw [e]))⟩
theorem copied (cur q : List (BitVec 8)) : ((bs cur).toList.take 0 ++ (bytesV q ++ (bs cur).toList.drop (0 + (bytesV q).length))).toArray = bs (q ++ cur.drop q.length) := by
  simp [bs, bytesV]
theorem wpList_copy_bytes {w : World} {ops : Array Oper} {rest : List Oper} {o : Oper} {a : Act} {Q : Exit → Act → World → Prop} (hgd : o.guard = none) (d s : Operand)
    (ho : o.op = .call { callee := .builtin .copy, args := #[d, s], argTypes := #[22, 22] })
    (g n m : Nat) (hd : a.eval d = .slice (some ⟨g, 0, none⟩) n m) (v : Value) (hs : a.eval s = v) (q cur : List (BitVec 8)) (hq : Slice w v q) (t : TypeId) (hg : Row w g t (bs cur)) (hn : cur.length = n) (hle : q.length ≤ n)
    (h : ∀ w', Row w' g t (bs (q ++ cur.drop q.length)) → w.grownBy w' (some g) → wpList Tryd.prog ops Q rest (a.put o.dst (goInt q.length)) w') : wpList Tryd.prog ops Q (o :: rest) a w := by
  obtain ⟨A, c, rfl, _, h3⟩ := hq
  by_cases hne : q = []
  · subst hne
    refine wpList_copy_nothing hgd d s 22 22 ho 5 Tryd.underlying22 size_u8 _ _ n m 0 c hd hs (Nat.zero_min _) ?_
    exact h w (by simpa using hg) (owns_refl w _)
  · obtain ⟨b, o', rfl, hbl, hc⟩ := h3 hne
    refine wpList_copy_own hgd d s 22 22 ho 5 Tryd.underlying22 size_u8 g 0 n m ⟨b, o', none⟩ q.length c hd hs (bs cur) t hg (bytesV q) (by rw [show (bytesV q).length = q.length by simp [bytesV]]; exact (Nat.min_eq_left hle).symm) ?_ (by rw [size_bs]; simp [bytesV]; omega) (one_bytesV q) ?_
    · intro j u hu
      rw [Addr.add_mid]
      simp only [bytesV, List.getElem?_map, Option.map_eq_some_iff] at hu
      obtain ⟨y, hy, rfl⟩ := hu
      exact hc j y hy
    · rw [copied, show (bytesV q).length = q.length by simp [bytesV]]
      exact h _ (hg.setRow _) (grown_setRow _ _ _)
end Go.Proofs.YtnfceejmkcohnaaDoor
