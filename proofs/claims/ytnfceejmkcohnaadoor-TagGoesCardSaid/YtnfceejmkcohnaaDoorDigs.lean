/- Slices of hashes: what they hold, and how they are built. -/
import Derived.Test.YtnfceejmkcohnaaDoorTagSpec
import Derived.Test.YtnfceejmkcohnaaDoorPartL
namespace Go.Proofs.YtnfceejmkcohnaaDoor
open Go Go.RowKit
theorem info_d : (Tryd.prog.info? 24).map (fun i => (i.zero, i.size, i.bytes)) = some (some (.agg (bs (zer 32))), 32, 32) := by kernel_rfl
theorem info_parts4 {t : TypeId} {z : Option Value} {s b : Nat} (h : (Tryd.prog.info? t).map (fun i => (i.zero, i.size, i.bytes)) = some (z, s, b)) : ∃ i, Tryd.prog.info? t = some i ∧ i.zero = z ∧ i.size = s ∧ i.bytes = b := by
  cases hi : Tryd.prog.info? t with
  | none => rw [hi] at h; cases h
  | some i => rw [hi] at h; simp at h; exact ⟨i, rfl, h.1, h.2.1, h.2.2⟩
/- a slice value that reads as these hashes -/
def Digs (w : World) (v : Value) (ds : List (List (BitVec 8))) : Prop :=
  ∃ A c, v = .slice A ds.length c ∧ (ds ≠ [] → ∃ b o, A = some ⟨b, o, none⟩ ∧ b < w.heap.size ∧ ∀ (j : Nat) (d : List (BitVec 8)), ds[j]? = some d → w.rangeAt b (o + j * 32) (bs d).toList)
theorem Digs.below {w w' : World} {B : Nat} {v : Value} {ds : List (List (BitVec 8))} (h : Digs w v ds) (hb : Below B w w') (hB : w.heap.size ≤ B) : Digs w' v ds := by
  obtain ⟨A, c, h1, h3⟩ := h
  refine ⟨A, c, h1, fun hne => ?_⟩
  obtain ⟨b, o, h4, h5, h6⟩ := h3 hne
  exact ⟨b, o, h4, Nat.lt_of_lt_of_le h5 hb.size, fun j d hd k v hv => (hb.cell (p := ⟨b, o + j * 32 + k, none⟩) (Nat.lt_of_lt_of_le h5 hB)).trans (h6 j d hd k v hv)⟩
theorem own_digs {w : World} {base : Nat} {v : Value} {ds : List (List (BitVec 8))} (h : w.ownsRow base 24 32 v ds.length (digsV ds)) (hd : ∀ d ∈ ds, d.length = 32) : Digs w v ds := by
  rcases h.2 with ⟨rfl, h0⟩ | ⟨g, cap, cur, rfl, hg, hh, hc, _, hs, ht⟩
  · have : ds = [] := List.length_eq_zero_iff.1 h0
    subst this
    exact ⟨none, 0, rfl, fun h => absurd rfl h⟩
  · refine ⟨_, cap, rfl, fun _ => ⟨g, 0, rfl, (h.lt g rfl).2, fun j d hj k u hu => ?_⟩⟩
    have hx := digsV_get ds hd j d hj k u hu
    rw [Nat.zero_add, cell_of_row w g _ cur _ _ hh]
    rw [← ht, List.getElem?_take] at hx
    split at hx
    · simpa using hx
    · cases hx
theorem one_bsL (d : List (BitVec 8)) : ∀ u ∈ (bs d).toList, Value.oneCell' u = true := fun u hu => by
  simp [bs] at hu
  obtain ⟨x, _, rfl⟩ := hu
  rfl
theorem digsV_snoc (ds : List (List (BitVec 8))) (d : List (BitVec 8)) : digsV (ds ++ [d]) = digsV ds ++ (bs d).toList := by simp [digsV]
theorem run_build_dig32 (w : World) (x0 x1 x2 x3 x4 x5 x6 x7 x8 x9 x10 x11 x12 x13 x14 x15 x16 x17 x18 x19 x20 x21 x22 x23 x24 x25 x26 x27 x28 x29 x30 x31 : BitVec 8) : (Instr.buildSlice 30 1 #[(0, .agg (bs [x0, x1, x2, x3, x4, x5, x6, x7, x8, x9, x10, x11, x12, x13, x14, x15, x16, x17, x18, x19, x20, x21, x22, x23, x24, x25, x26, x27, x28, x29, x30, x31]))]).run Tryd.prog w = .ok (.slice (some ⟨w.heap.size, 0, none⟩) 1 1) (w.alloc (.cells (bs [x0, x1, x2, x3, x4, x5, x6, x7, x8, x9, x10, x11, x12, x13, x14, x15, x16, x17, x18, x19, x20, x21, x22, x23, x24, x25, x26, x27, x28, x29, x30, x31]) 24)) := by kernel_rfl
theorem run_build_dig (w : World) (d : List (BitVec 8)) (hd : d.length = 32) : (Instr.buildSlice 30 1 #[(0, .agg (bs d))]).run Tryd.prog w = .ok (.slice (some ⟨w.heap.size, 0, none⟩) 1 1) (w.alloc (.cells (bs d) 24)) := by
  match d, hd with
  | [x0, x1, x2, x3, x4, x5, x6, x7, x8, x9, x10, x11, x12, x13, x14, x15, x16, x17, x18, x19, x20, x21, x22, x23, x24, x25, x26, x27, x28, x29, x30, x31], _ => exact run_build_dig32 w x0 x1 x2 x3 x4 x5 x6 x7 x8 x9 x10 x11 x12 x13 x14 x15 x16 x17 x18 x19 x20 x21 x22 x23 x24 x25 x26 x27 x28 x29 x30 x31
theorem wp_build_dig {o : Oper} {a : Act} {w : World} {K : Act → World → Prop} {Q : Exit → Act → World → Prop} (x : Operand) (ho : o.op = .buildSlice 30 1 #[(0, x)]) (d : List (BitVec 8)) (hx : a.eval x = .agg (bs d)) (hd : d.length = 32)
    (h : K (a.put o.dst (.slice (some ⟨w.heap.size, 0, none⟩) 1 1)) (w.alloc (.cells (bs d) 24))) : o.wp Tryd.prog a w K Q := by
  unfold Oper.wp execOp
  simp only [ho, List.map_toArray, List.map_cons, List.map_nil, hx, Sem.run_bind, run_build_dig w d hd, Result.andThen_ok, Sem.run_pure]
  exact h
theorem wpList_build_dig {ops : Array Oper} {rest : List Oper} {o : Oper} {a : Act} {w : World} {Q : Exit → Act → World → Prop} (hgd : o.guard = none) (x : Operand) (ho : o.op = .buildSlice 30 1 #[(0, x)]) (d : List (BitVec 8)) (hx : a.eval x = .agg (bs d)) (hd : d.length = 32)
    (h : wpList Tryd.prog ops Q rest (a.put o.dst (.slice (some ⟨w.heap.size, 0, none⟩) 1 1)) (w.alloc (.cells (bs d) 24))) : wpList Tryd.prog ops Q (o :: rest) a w :=
  wpList_plain hgd fun _ hK => wp_build_dig x ho d hx hd (hK _ _ h)
/- a literal of one hash -/
theorem lit_dig (w : World) (d : List (BitVec 8)) (t : TypeId) : ∀ (j : Nat) (u : Value), (bs d).toList[j]? = some u → (w.alloc (.cells (bs d) t)).cell? ((⟨w.heap.size, 0, none⟩ : Addr).add j) = some u := fun j u hu => by
  rw [Addr.add_mid, Nat.zero_add, (Row.fresh w t (bs d)).cell]; simpa using hu
end Go.Proofs.YtnfceejmkcohnaaDoor
