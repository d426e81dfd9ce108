/- Two blocks of a call's own that stay as they are, and all that was there ahead of the call. -/
import Derived.Test.YtppbgkdkioldbaaPhA
set_option maxRecDepth 4000
namespace Go.Proofs.Ytppbgkdkioldbaa
open Go Go.RowKit
structure At2 (w W : World) (g1 : Nat) (t1 : TypeId) (c1 : Array Value) (g2 : Nat) (t2 : TypeId) (c2 : Array Value) (B0 : Nat) : Prop where
  r1 : Row W g1 t1 c1
  r2 : Row W g2 t2 c2
  below : Below w.heap.size w W
  bse : B0 ≤ W.heap.size
  lo1 : w.heap.size ≤ g1
  lo2 : w.heap.size ≤ g2
  l1 : g1 < B0
  l2 : g2 < B0
  b0 : w.heap.size ≤ B0
section
variable {w W W' : World} {g1 g2 B0 g : Nat} {t1 t2 : TypeId} {c1 c2 : Array Value}
theorem At2.call (h : At2 w W g1 t1 c1 g2 t2 c2 B0) (k : Same W W') : At2 w W' g1 t1 c1 g2 t2 c2 B0 :=
  ⟨h.r1.call k, h.r2.call k, h.below.trans (k.mono h.below.size), Nat.le_trans h.bse k.size, h.lo1, h.lo2, h.l1, h.l2, h.b0⟩
theorem At2.grow (h : At2 w W g1 t1 c1 g2 t2 c2 B0) (k : Below B0 W W') : At2 w W' g1 t1 c1 g2 t2 c2 B0 :=
  ⟨(k.block g1 h.l1).trans h.r1, (k.block g2 h.l2).trans h.r2, h.below.trans (k.mono h.b0), Nat.le_trans h.bse k.size, h.lo1, h.lo2, h.l1, h.l2, h.b0⟩
theorem At2.only (h : At2 w W g1 t1 c1 g2 t2 c2 B0) (hg : B0 ≤ g) (k : W.grownBy W' (some g)) : At2 w W' g1 t1 c1 g2 t2 c2 B0 :=
  h.grow (only_below k hg h.bse)
theorem At2.set (h : At2 w W g1 t1 c1 g2 t2 c2 B0) (hg : B0 ≤ g) (cs : Array Value) : At2 w (W.setRow g cs) g1 t1 c1 g2 t2 c2 B0 := h.only hg (grown_setRow W g cs)
theorem At2.two (w : World) (t1 t2 : TypeId) (c1 c2 : Array Value) : At2 w ((w.alloc (.cells c1 t1)).alloc (.cells c2 t2)) w.heap.size t1 c1 (w.heap.size + 1) t2 c2 (w.heap.size + 1 + 1) :=
  ⟨(Row.fresh _ _ _).alloc _, by have := Row.fresh (w.alloc (.cells c1 t1)) t2 c2; simpa using this, ((Below.refl _ _).alloc (Nat.le_refl _) _).alloc (by simp) _, by simp, Nat.le_refl _, by omega, by omega, by omega, by omega⟩
end
end Go.Proofs.Ytppbgkdkioldbaa
