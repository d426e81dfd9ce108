/- The statement DiskPlays: its walk. -/
import Derived.Test.YteehpdeeaebliaaDiskNone
import Derived.Deep.DeepCutAuto
import Derived.Deep.CutBlock
namespace Go.Proofs.Yteehpdeeaebliaa
open Go Go.RowKit
/- the program's disk at p holds M, the document's at q holds N, apart from each other; the step x lies in a block of the call's own -/
structure Two (D : DiskOps) (base : Nat) (p q : Value) (w W : World) (M N : DiskM) (F G : Nat → Prop) : Prop where
  prog : D.A base W p M F
  ref : RefAt base W q N G
  apart : ∀ k, F k → ¬ G k
  below : Below base w W
  bse : base ≤ W.heap.size
def Full (D : DiskOps) (base : Nat) (p q : Value) (gx : Nat) (cs : Array Value) (w W : World) (M N : DiskM) : Prop :=
  ∃ F G, Two D base p q w W M N F G ∧ Row W gx 34 cs ∧ ¬ F gx ∧ ¬ G gx
section
variable {D : DiskOps} {base gx gx' : Nat} {p q : Value} {cs : Array Value} {w W W' : World} {M M' N N' : DiskM} {F F' G G' : Nat → Prop}
theorem Two.still (h : Two D base p q w W M N F G) (hb : Below W.heap.size W W') : Two D base p q w W' M N F G :=
  ⟨D.still h.prog hb, ref_keep h.ref (Chg.of_below (F := fun _ => False) hb) (fun _ _ => id), h.apart, h.below.trans (hb.mono h.bse), Nat.le_trans h.bse hb.size⟩
theorem Two.left (h : Two D base p q w W M N F G) (hA : D.A base W' p M' F') (hC : Chg F W W') (hF : ∀ i, F' i → F i ∨ W.heap.size ≤ i) : Two D base p q w W' M' N F' G :=
  ⟨hA, ref_keep h.ref hC (fun k hk hf => h.apart k hf hk), fun k hk hg => by rcases hF k hk with h1 | h1; exact h.apart k h1 hg; have := (ref_lt h.ref k hg).2; omega, h.below.trans (acts_below (D.lt h.prog) hC h.bse), Nat.le_trans h.bse hC.size⟩
theorem Two.right (h : Two D base p q w W M N F G) (hA : RefAt base W' q N' G') (hC : Chg G W W') (hF : ∀ i, G' i → G i ∨ W.heap.size ≤ i) : Two D base p q w W' M N' F G' :=
  ⟨D.keep h.prog hC h.apart, hA, fun k hk hg => by rcases hF k hg with h1 | h1; exact h.apart k hk h1; have := (D.lt h.prog k hk).2; omega, h.below.trans (acts_below (ref_lt h.ref) hC h.bse), Nat.le_trans h.bse hC.size⟩
theorem Full.still (h : Full D base p q gx cs w W M N) (hb : Below W.heap.size W W') : Full D base p q gx cs w W' M N := by
  obtain ⟨F, G, h, r, hf, hg⟩ := h
  exact ⟨F, G, h.still hb, r.call hb, hf, hg⟩
theorem Full.left (h : Full D base p q gx cs w W M N) {r : Value} {f : FuncId} {vs : Array Value} (hC : ∀ F, D.A base W p M F → Calls Try.prog f vs W (Acts D.A base W p F M' r)) : Calls Try.prog f vs W fun e W' => e = .returned r ∧ Full D base p q gx cs w W' M' N := by
  obtain ⟨F, G, h, rx, hf, hg⟩ := h
  refine (hC F h.prog).mono ?_
  rintro e W' ⟨rfl, F', hA, hC, hF⟩
  exact ⟨rfl, F', G, h.left hA hC hF, rx.chg hC hf, (fun h1 => by rcases hF gx h1 with h2 | h2; exact hf h2; have := rx.lt; omega), hg⟩
theorem Full.right (h : Full D base p q gx cs w W M N) {r : Value} {f : FuncId} {vs : Array Value} (hC : ∀ G, RefAt base W q N G → Calls Try.prog f vs W (Acts RefAt base W q G N' r)) : Calls Try.prog f vs W fun e W' => e = .returned r ∧ Full D base p q gx cs w W' M N' := by
  obtain ⟨F, G, h, rx, hf, hg⟩ := h
  refine (hC G h.ref).mono ?_
  rintro e W' ⟨rfl, G', hA, hC, hF⟩
  exact ⟨rfl, F, G', h.right hA hC hF, rx.chg hC hg, hf, (fun h1 => by rcases hF gx h1 with h2 | h2; exact hg h2; have := rx.lt; omega)⟩
theorem Full.ask (h : Full D base p q gx cs w W M N) {r : Value} {f : FuncId} {vs : Array Value} (hC : Calls Try.prog f vs W (Asks W r)) : Calls Try.prog f vs W fun e W' => e = .returned r ∧ Full D base p q gx cs w W' M N := by
  refine hC.mono ?_
  rintro e W' ⟨rfl, hb⟩
  exact ⟨rfl, h.still hb⟩
theorem Full.below (h : Full D base p q gx cs w W M N) : Below base w W := by
  obtain ⟨F, G, h, _⟩ := h
  exact h.below
theorem Full.bse (h : Full D base p q gx cs w W M N) : base ≤ W.heap.size := by
  obtain ⟨F, G, h, _⟩ := h
  exact h.bse
theorem Full.row (h : Full D base p q gx cs w W M N) : Row W gx 34 cs := by
  obtain ⟨F, G, _, h, _⟩ := h
  exact h
theorem Full.write (h : Full D base p q gx cs w W M N) (i : Int) (b : List (BitVec 8)) (hb : b.length = 32) (hl : M.l.length ≤ few) (hi : -9223372036854775808 ≤ i ∧ i < 9223372036854775808) : Calls Try.prog 12 #[p, .int .i64 i, .agg (bs b)] W fun e W' => e = .returned (.int .i64 (M.wRes i b).1) ∧ Full D base p q gx cs w W' (M.wRes i b).2 N :=
  h.left fun F hA => D.write base W p M F i b hA hb hl hi
theorem Full.rwrite (h : Full D base p q gx cs w W M N) (i : Int) (b : List (BitVec 8)) (hb : b.length = 32) (hl : N.l.length ≤ few) : Calls Try.prog 14 #[q, .int .i64 i, .agg (bs b)] W fun e W' => e = .returned (.int .i64 (N.wRes i b).1) ∧ Full D base p q gx cs w W' M (N.wRes i b).2 :=
  h.right fun G hA => ref_write base W q N G i b hA hb hl
theorem Full.flush (h : Full D base p q gx cs w W M N) (hl : M.l.length ≤ few) : Calls Try.prog 17 #[p] W fun e W' => e = .returned (.int .i64 M.fRes.1) ∧ Full D base p q gx cs w W' M.fRes.2 N :=
  h.left fun F hA => D.flush base W p M F hA hl
theorem Full.rflush (h : Full D base p q gx cs w W M N) (hl : N.l.length ≤ few) : Calls Try.prog 18 #[q] W fun e W' => e = .returned (.int .i64 N.fRes.1) ∧ Full D base p q gx cs w W' M N.fRes.2 :=
  h.right fun G hA => ref_flush base W q N G hA hl
theorem Full.read (h : Full D base p q gx cs w W M N) (i : Int) (hl : M.l.length ≤ few) (hi : -9223372036854775808 ≤ i ∧ i < 9223372036854775808) : Calls Try.prog 15 #[p, .int .i64 i] W fun e W' => e = .returned (.tuple #[.agg (bs (M.rRes i).1), .int .i64 (M.rRes i).2]) ∧ Full D base p q gx cs w W' M N := by
  obtain ⟨F, G, h', r⟩ := h
  exact Full.ask ⟨F, G, h', r⟩ (D.read base W p M F i h'.prog hl hi)
theorem Full.rread (h : Full D base p q gx cs w W M N) (i : Int) (hl : N.l.length ≤ few) : Calls Try.prog 16 #[q, .int .i64 i] W fun e W' => e = .returned (.tuple #[.agg (bs (N.rRes i).1), .int .i64 (N.rRes i).2]) ∧ Full D base p q gx cs w W' M N := by
  obtain ⟨F, G, h', r⟩ := h
  exact Full.ask ⟨F, G, h', r⟩ (ref_read base W q N G i h'.ref hl)
theorem Full.fuse (h : Full D base p q gx cs w W M N) (n : Int) (hn : -9223372036854775808 ≤ n ∧ n < 9223372036854775808) : Calls Try.prog 21 #[p, .int .i64 n] W fun e W' => e = .returned (.tuple #[]) ∧ Full D base p q gx cs w W' (M.fused n) N :=
  h.left fun F hA => D.fuse base W p M F n hA hn
theorem Full.up (h : Full D base p q gx cs w W M N) (hl : M.l.length ≤ few) {v : Value} {keep : List (BitVec 8)} (hv : Slice W v keep) (hk : keep.length ≤ few) (hF : ∀ F, D.A base W p M F → ∀ k, v.ownBlock = some k → ¬ F k) : Calls Try.prog 19 #[p, v] W fun e W' => e = .returned (.tuple #[]) ∧ Full D base p q gx cs w W' (M.upped keep) N :=
  h.left fun F hA => D.up base W p M F v keep hA hl hv hk (hF F hA)
/- an Up by a slice that was made behind W -/
theorem Full.upOwn (h : Full D base p q gx cs w W M N) (hb : Below W.heap.size W W') (hl : M.l.length ≤ few) {v : Value} {keep : List (BitVec 8)} (hv : Slice W' v keep) (hk : keep.length ≤ few) (hF : ∀ k, v.ownBlock = some k → W.heap.size ≤ k) : Calls Try.prog 19 #[p, v] W' fun e W2 => e = .returned (.tuple #[]) ∧ Full D base p q gx cs w W2 (M.upped keep) N := by
  obtain ⟨F, G, h', r, hf, hg⟩ := h
  have h2 := h'.still hb
  refine (D.up base W' p M F v keep h2.prog hl hv hk (fun k hk hF' => by have := hF k hk; have := (D.lt h'.prog k hF').2; omega)).mono ?_
  rintro e W2 ⟨rfl, F', hA, hC, hFF⟩
  exact ⟨rfl, F', G, h2.left hA hC hFF, (r.call hb).chg hC hf, (fun h1 => by rcases hFF gx h1 with h3 | h3; exact hf h3; have := (r.call hb).lt; omega), hg⟩
/- an Up by a slice that was handed in -/
theorem Full.rupArg (h : Full D w.heap.size p q gx cs w W M N) (hl : N.l.length ≤ few) {v : Value} {keep : List (BitVec 8)} (hv : Slice w v keep) (hk : keep.length ≤ few) : Calls Try.prog 20 #[q, v] W fun e W' => e = .returned (.tuple #[]) ∧ Full D w.heap.size p q gx cs w W' M (N.upped keep) :=
  h.right fun G hA => ref_up w.heap.size W q N G v keep hA hl (Slice.below hv h.below (Nat.le_refl _)) hk fun hne k hk' hG => by
    obtain ⟨A, c, rfl, _, hs⟩ := hv
    obtain ⟨b, o, rfl, hb, _⟩ := hs hne
    injection hk' with hk'
    have hk' : b = k := hk'
    have := (ref_lt hA k hG).1
    omega
theorem Two.ups (h : Two D base p q w W M N F G) (hl : M.l.length ≤ few) : Calls Try.prog 19 #[p, .slice none 0 0] W fun e W' => e = .returned (.tuple #[]) ∧ ∃ F', Two D base p q w W' (M.upped []) N F' G := by
  refine (D.up base W p M F _ [] h.prog hl (slice_nil W) (Nat.zero_le _) (fun k hk => by cases hk)).mono ?_
  rintro e W' ⟨rfl, F', hA, hC, hF⟩
  exact ⟨rfl, F', h.left hA hC hF⟩
theorem Two.rups (h : Two D base p q w W M N F G) (hl : N.l.length ≤ few) : Calls Try.prog 20 #[q, .slice none 0 0] W fun e W' => e = .returned (.tuple #[]) ∧ ∃ G', Two D base p q w W' M (N.upped []) F G' := by
  refine (ref_up base W q N G _ [] h.ref hl (slice_nil W) (Nat.zero_le _) (fun h => absurd rfl h)).mono ?_
  rintro e W' ⟨rfl, G', hA, hC, hF⟩
  exact ⟨rfl, G', h.right hA hC hF⟩
theorem Full.loose (h : Full D base p q gx cs w W M N) (hl : M.l.length ≤ few) : Calls Try.prog 22 #[p] W fun e W' => e = .returned (.int .i64 (M.l.length : Int)) ∧ Below W.heap.size W W' := by
  obtain ⟨F, G, h', r⟩ := h
  exact D.loose base W p M F h'.prog hl
theorem Full.down (h : Full D base p q gx cs w W M N) : Calls Try.prog 23 #[p] W fun e W' => e = .returned (.bool M.down) ∧ Below W.heap.size W W' := by
  obtain ⟨F, G, h', r⟩ := h
  exact D.down base W p M F h'.prog
theorem Full.len (h : Full D base p q gx cs w W M N) : Calls Try.prog 24 #[p] W fun e W' => e = .returned (.int .i64 (M.s.length : Int)) ∧ Below W.heap.size W W' := by
  obtain ⟨F, G, h', r⟩ := h
  exact D.len base W p M F h'.prog
/- the document's disk, opened: its fields -/
theorem Full.open (h : Full D base p (.pointer (some ⟨gx', 0, none⟩)) gx cs w W M N) : ∃ A c A' c', Row W gx' 52 #[.slice A N.s.length c, .slice A' N.l.length c', .int .i64 N.f, .bool N.down] := by
  obtain ⟨F, G, h', _⟩ := h
  obtain ⟨g, vs, vl, e, h, _⟩ := h'.ref
  injection e with e
  injection e with e
  injection e with e _ _
  subst e
  obtain ⟨A, c, rfl, _⟩ := own_slice_form h.sec
  obtain ⟨A', c', rfl, _⟩ := own_slice_form h.loo
  exact ⟨A, c, A', c', h.row⟩
/- its fuse is set by a store -/
theorem Full.rfuse (h : Full D base p (.pointer (some ⟨gx', 0, none⟩)) gx cs w W M N) (n : Int) (hn : -9223372036854775808 ≤ n ∧ n < 9223372036854775808) : Full D base p (.pointer (some ⟨gx', 0, none⟩)) gx cs w (W.setCell ⟨gx', 2, none⟩ (.int .i64 n)) M (N.fused n) := by
  obtain ⟨F, G, h', r, hf, hg⟩ := h
  obtain ⟨g, vs, vl, e, h, hG⟩ := h'.ref
  injection e with e
  injection e with e
  injection e with e _ _
  subst e
  have hc := Chg.one W gx' 2 (.int .i64 n)
  have hr : Row (W.setCell ⟨gx', 2, none⟩ (.int .i64 n)) gx' 52 #[vs, vl, .int .i64 n, .bool N.down] := h.row.put 2 (.int .i64 n)
  have hgx : G gx' := by rw [hG]; exact .inl rfl
  have hok : (N.fused n).Ok := ⟨h.ok.lo, h.ok.hi, h.ok.s, h.ok.l, hn⟩
  have hcG : Chg G W (W.setCell ⟨gx', 2, none⟩ (.int .i64 n)) := hc.mono fun k hk => .inl (by rw [hk]; exact hgx)
  exact ⟨F, G, h'.right ⟨gx', vs, vl, rfl, h.next rfl rfl hok hr hc, hG⟩ hcG (fun i hi => .inl hi), r.chg hcG hg, hf, hg⟩
end
end Go.Proofs.Yteehpdeeaebliaa
