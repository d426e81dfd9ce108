/- Merged: NodeSpec NdPure NodeIf NdTorn. -/
import Derived.Test.YtbdpocbnkgckhaaMWal0
import Derived.Test.YtbdpocbnkgckhaaMLabel0
import Derived.Test.YtbdpocbnkgckhaaMDisk0
/- A tenant's part of a node as plain data: a disk of 19 sectors and a label; what each call makes of them. No program is named here. -/
set_option maxRecDepth 4000
namespace Go.Proofs.Ytbdpocbnkgckhaa
def ndPuts (M : DiskM) : List (Int × List (BitVec 8)) → Int × DiskM
  | [] => (0, M)
  | x :: l => orElse (M.wRes (7 + x.1) x.2) fun M => ndPuts M l
def ndWrite (M : DiskM) (l : List (Int × List (BitVec 8))) : Int × DiskM := orElse (ndPuts M l) fun M => M.fRes
def ndSet (M : DiskM) (L : Lab) : Int × DiskM := orElse (M.wRes 0 (labB L)) fun M => M.fRes
def maxU (a b : BitVec 32) : BitVec 32 := if a.toNat < b.toNat then b else a
def doneLab (L : Lab) (r : Rec) (d : BitVec 16) : Lab := ⟨r.e, r.s, maxU L.n (r.s + 1#32), d, bitsOf r.ats⟩
def ndCarry (M : DiskM) (L : Lab) (r : Rec) (d : BitVec 16) : Int × DiskM := orElse (ndWrite M r.l) fun M => ndSet M (doneLab L r d)
def ndLater (L : Lab) (r : Rec) : Bool := laterB r.e r.s L.e L.s
/- the label behind a call that answered x -/
def ndLab (x : Int) (L L' : Lab) : Lab := if x = 0 then L' else L
def ndApply (M : DiskM) (L : Lab) (r : Rec) (d : BitVec 16) : Int × DiskM := if goodB r.ats then (if ndLater L r then orElse (walPut M 1 r) fun M => ndCarry M L r d else (23, M)) else (1, M)
def ndCatch (M : DiskM) (L : Lab) : Int × DiskM := if (walGet M 1).2 = 0 then (if ndLater L (walGet M 1).1 then ndCarry M L (walGet M 1).1 L.d else (0, M)) else if (walGet M 1).2 = 11 then (0, M) else ((walGet M 1).2, M)
def ndCatchL (M : DiskM) (L : Lab) : Lab := if (walGet M 1).2 = 0 then (if ndLater L (walGet M 1).1 then ndLab (ndCatch M L).1 L (doneLab L (walGet M 1).1 L.d) else L) else L
def ndBlock (M : DiskM) (i : Int) : List (BitVec 8) × Int := if 0 ≤ i ∧ i < 12 then M.rRes (7 + i) else (blk 0#8, 1)
def ndOpen (M : DiskM) : Int × DiskM :=
  if M.s.length = 19 then (if (M.rRes 0).2 = 0 then (if decLabE (M.rRes 0).1 = 0 then ndCatch M (decLab (M.rRes 0).1) else (decLabE (M.rRes 0).1, M)) else ((M.rRes 0).2, M)) else (1, M)
def ndOpenL (M : DiskM) : Lab := ndCatchL M (decLab (M.rRes 0).1)
/- how many writes are loose behind it; as many sectors as ahead of it -/
theorem orElse_len {a : Int × DiskM} {k : DiskM → Int × DiskM} {x y : Nat} (h : a.2.l.length ≤ x) (hk : ∀ M : DiskM, M.l.length ≤ x → (k M).2.l.length ≤ y) (hxy : x ≤ y) : (orElse a k).2.l.length ≤ y := by
  unfold orElse; split
  · exact hk _ h
  · exact Nat.le_trans h hxy
theorem ndPuts_l : ∀ (l : List (Int × List (BitVec 8))) (M : DiskM), (ndPuts M l).2.l.length ≤ M.l.length + l.length
  | [], _ => Nat.le_refl _
  | x :: l, M => by
    refine orElse_len (x := M.l.length + 1) (wRes_l M (7 + x.1) x.2 (Nat.le_refl _)) (fun M' h => Nat.le_trans (ndPuts_l l M') ?_) ?_ <;> simp only [List.length_cons] <;> omega
theorem ndWrite_l (M : DiskM) (l : List (Int × List (BitVec 8))) : (ndWrite M l).2.l.length ≤ M.l.length + l.length :=
  orElse_len (ndPuts_l l M) (fun M' h => Nat.le_trans (fRes_l M') h) (Nat.le_refl _)
theorem goodB_len {l : List Int} (h : goodB l = true) : 1 ≤ l.length ∧ l.length ≤ 5 := by
  unfold goodB at h
  simp only [Bool.and_eq_true, decide_eq_true_eq] at h
  exact h.2
theorem goodB_at {l : List Int} (h : goodB l = true) : ∀ i ∈ l, 0 ≤ i ∧ i < 12 := by
  intro i hi
  unfold goodB at h
  simp only [Bool.and_eq_true, decide_eq_true_eq] at h
  obtain ⟨k, hk, rfl⟩ := List.getElem_of_mem hi
  have := h.1 k hk
  unfold okAt at this
  rw [show l.getD k 0 = l[k] by simp [List.getD, hk]] at this
  exact ⟨this.1, this.2.1⟩
theorem ndImgs_l : ∀ (bl : List (List (BitVec 8))) (M : DiskM) (f : Int), (imgs M f bl).2.l.length ≤ M.l.length + bl.length
  | [], _, _ => Nat.le_refl _
  | b :: l, M, f => by
    refine orElse_len (x := M.l.length + 1) (wRes_l M f b (Nat.le_refl _)) (fun M' h => Nat.le_trans (ndImgs_l l M' (f + 1)) ?_) ?_ <;> simp only [List.length_cons] <;> omega
theorem ndPut_l (M : DiskM) (f : Int) (r : Rec) : (walPut M f r).2.l.length ≤ M.l.length + 6 := by
  unfold walPut; split
  · rename_i hg
    rw [Bool.and_eq_true] at hg
    have h5 : (r.l.map (·.2)).length ≤ 5 := by have := (goodB_len hg.2).2; unfold Rec.ats at this; rw [List.length_map] at this ⊢; exact this
    refine orElse_len (x := M.l.length + 5) (Nat.le_trans (ndImgs_l _ M _) (by omega)) (fun M1 h1 => orElse_len (x := M.l.length + 5) (Nat.le_trans (fRes_l M1) h1) (fun M2 h2 => orElse_len (x := M.l.length + 6) (wRes_l M2 f _ h2) (fun M3 h3 => Nat.le_trans (fRes_l M3) h3) (Nat.le_refl _)) (by omega)) (by omega)
  · exact Nat.le_add_right _ _
theorem ndSet_ok {M : DiskM} {L : Lab} (h : (M.wRes 0 (labB L)).1 = 0) : ndSet M L = (M.wRes 0 (labB L)).2.fRes := by unfold ndSet orElse; rw [if_pos h]
theorem ndSet_no {M : DiskM} {L : Lab} (h : (M.wRes 0 (labB L)).1 ≠ 0) : ndSet M L = M.wRes 0 (labB L) := by unfold ndSet orElse; rw [if_neg h]
theorem ndCarry_ok {M : DiskM} {L : Lab} {r : Rec} {d : BitVec 16} (h : (ndWrite M r.l).1 = 0) : ndCarry M L r d = ndSet (ndWrite M r.l).2 (doneLab L r d) := by unfold ndCarry orElse; rw [if_pos h]
theorem ndCarry_no {M : DiskM} {L : Lab} {r : Rec} {d : BitVec 16} (h : (ndWrite M r.l).1 ≠ 0) : ndCarry M L r d = ndWrite M r.l := by unfold ndCarry orElse; rw [if_neg h]
end Go.Proofs.Ytbdpocbnkgckhaa

/- A node's calls as plain data: puts written one by one. No program is named here. -/
set_option maxRecDepth 4000
namespace Go.Proofs.Ytbdpocbnkgckhaa
theorem oe_ok {a : Int × DiskM} {k : DiskM → Int × DiskM} (h : a.1 = 0) : orElse a k = k a.2 := if_pos h
theorem oe_no {a : Int × DiskM} {k : DiskM → Int × DiskM} (h : ¬ a.1 = 0) : orElse a k = a := if_neg h
theorem oe_self (a : Int × DiskM) : orElse a (fun M => (0, M)) = a := by
  by_cases h : a.1 = 0
  · rw [oe_ok h, ← h]
  · rw [oe_no h]
theorem oe_assoc (a : Int × DiskM) (j k : DiskM → Int × DiskM) : orElse (orElse a j) k = orElse a fun M => orElse (j M) k := by
  by_cases h : a.1 = 0
  · rw [oe_ok h, oe_ok h]
  · rw [oe_no h, oe_no h, oe_no h]
theorem ndPuts_app : ∀ (a b : List (Int × List (BitVec 8))) (M : DiskM), ndPuts M (a ++ b) = orElse (ndPuts M a) fun M => ndPuts M b
  | [], b, M => by show ndPuts M b = orElse (0, M) _; rw [oe_ok rfl]
  | x :: a, b, M => by
    show orElse (M.wRes (7 + x.1) x.2) (fun M => ndPuts M (a ++ b)) = orElse (orElse (M.wRes (7 + x.1) x.2) fun M => ndPuts M a) _
    rw [oe_assoc]
    congr 1
    funext M
    exact ndPuts_app a b M
section
variable {M : DiskM} {l : List (Int × List (BitVec 8))} {k n : Nat} {x : Int × List (BitVec 8)}
theorem ndPuts_S (h0 : (ndPuts M (l.take k)).1 = 0) (hx : l[k]? = some x) : ndPuts M (l.take (k + 1)) = (ndPuts M (l.take k)).2.wRes (7 + x.1) x.2 := by
  obtain ⟨h1, h2⟩ := List.getElem?_eq_some_iff.1 hx
  rw [List.take_succ_eq_append_getElem h1, h2, ndPuts_app, oe_ok h0]
  exact oe_self _
theorem ndPuts_no (h0 : (ndPuts M (l.take k)).1 = 0) (hx : l[k]? = some x) (h : ¬ ((ndPuts M (l.take k)).2.wRes (7 + x.1) x.2).1 = 0) : ndPuts M l = (ndPuts M (l.take k)).2.wRes (7 + x.1) x.2 := by
  obtain ⟨h1, h2⟩ := List.getElem?_eq_some_iff.1 hx
  conv => lhs; rw [← List.take_append_drop (k + 1) l]
  rw [ndPuts_app, ndPuts_S h0 hx, oe_no h]
theorem ndWrite_f (h0 : (ndPuts M (l.take k)).1 = 0) (hx : l[k]? = some x) (h : ¬ ((ndPuts M (l.take k)).2.wRes (7 + x.1) x.2).1 = 0) : ndWrite M l = (ndPuts M (l.take k)).2.wRes (7 + x.1) x.2 := by
  unfold ndWrite; rw [ndPuts_no h0 hx h, oe_no h]
theorem ndWrite_a (hn : l.length = n) (hk : n ≤ k) (h0 : (ndPuts M (l.take k)).1 = 0) : ndWrite M l = (ndPuts M (l.take k)).2.fRes := by
  rw [List.take_of_length_le (by omega)] at h0 ⊢
  unfold ndWrite; rw [oe_ok h0]
theorem ndPuts_lk (hn : l.length = n) (hm : n ≤ 5) : (ndPuts M (l.take k)).2.l.length ≤ M.l.length + 5 := by
  refine Nat.le_trans (ndPuts_l _ _) ?_
  rw [List.length_take]; omega
theorem ndWrite_l5 (hm : l.length ≤ 5) : (ndWrite M l).2.l.length ≤ M.l.length + 5 := Nat.le_trans (ndWrite_l _ _) (by omega)
end
theorem ndLab_ok {x : Int} {L L' : Lab} (h : x = 0) : ndLab x L L' = L' := if_pos h
theorem ndLab_no {x : Int} {L L' : Lab} (h : ¬ x = 0) : ndLab x L L' = L := if_neg h
section
variable {M : DiskM} {L : Lab} {r : Rec} {d : BitVec 16}
theorem ndApply_1 (h : goodB r.ats = false) : ndApply M L r d = (1, M) := by unfold ndApply; rw [if_neg (by rw [h]; decide)]
theorem ndApply_23 (h : goodB r.ats = true) (h2 : ndLater L r = false) : ndApply M L r d = (23, M) := by unfold ndApply; rw [if_pos h, if_neg (by rw [h2]; decide)]
theorem ndApply_f (h : goodB r.ats = true) (h2 : ndLater L r = true) (h3 : ¬ (walPut M 1 r).1 = 0) : ndApply M L r d = walPut M 1 r := by unfold ndApply; rw [if_pos h, if_pos h2, oe_no h3]
theorem ndApply_a (h : goodB r.ats = true) (h2 : ndLater L r = true) (h3 : (walPut M 1 r).1 = 0) : ndApply M L r d = ndCarry (walPut M 1 r).2 L r d := by unfold ndApply; rw [if_pos h, if_pos h2, oe_ok h3]
theorem ndCatch_11 (h : (walGet M 1).2 = 11) : ndCatch M L = (0, M) ∧ ndCatchL M L = L := by
  unfold ndCatch ndCatchL; rw [h]; exact ⟨rfl, rfl⟩
theorem ndCatch_e (h : ¬ (walGet M 1).2 = 11) (h2 : ¬ (walGet M 1).2 = 0) : ndCatch M L = ((walGet M 1).2, M) ∧ ndCatchL M L = L := by
  unfold ndCatch ndCatchL; rw [if_neg h2, if_neg h, if_neg h2]; exact ⟨rfl, rfl⟩
theorem ndCatch_s (h2 : (walGet M 1).2 = 0) (h3 : ndLater L (walGet M 1).1 = false) : ndCatch M L = (0, M) ∧ ndCatchL M L = L := by
  unfold ndCatch ndCatchL; rw [if_pos h2, if_neg (by rw [h3]; decide), if_pos h2, if_neg (by rw [h3]; decide)]; exact ⟨rfl, rfl⟩
theorem ndCatch_a (h2 : (walGet M 1).2 = 0) (h3 : ndLater L (walGet M 1).1 = true) : ndCatch M L = ndCarry M L (walGet M 1).1 L.d ∧ ndCatchL M L = ndLab (ndCarry M L (walGet M 1).1 L.d).1 L (doneLab L (walGet M 1).1 L.d) := by
  unfold ndCatchL
  rw [if_pos h2, if_pos h3]
  unfold ndCatch
  rw [if_pos h2, if_pos h3]; exact ⟨rfl, rfl⟩
end
theorem walGet_good {M : DiskM} (h : (walGet M 1).2 = 0) : goodB (walGet M 1).1.ats = true ∧ ∀ x ∈ (walGet M 1).1.l, 0 ≤ x.1 ∧ x.1 < 12 := by
  have key : goodB (walGet M 1).1.ats = true := by
    unfold walGet at h ⊢
    cases h1 : mayB M 1 with
    | false => rw [h1, if_neg (by decide)] at h; cases h
    | true =>
      rw [h1, if_pos rfl] at h
      rw [if_pos rfl]
      cases h2 : M.down with
      | true => rw [h2, if_pos rfl] at h; cases h
      | false =>
        rw [h2, if_neg (by decide)] at h
        rw [if_neg (by decide)]
        cases h3 : isHead (M.now (1 : Int).toNat) with
        | false => rw [h3, if_neg (by decide)] at h; cases h
        | true =>
          rw [if_pos rfl]
          unfold isHead at h3
          simp only [Bool.and_eq_true] at h3
          have h4 := h3.2.2
          have e : (recAt M (1 : Int).toNat).ats = atsOf (M.now (1 : Int).toNat) := by
            unfold recAt atsOf Rec.ats
            rw [List.map_map]; rfl
          show goodB (recAt M (1 : Int).toNat).ats = true
          rw [e]; exact h4
  exact ⟨key, fun x hx => goodB_at key x.1 (List.mem_map.2 ⟨x, hx, rfl⟩)⟩
theorem ndrec_len {r : Rec} (h : goodB r.ats = true) : r.l.length ≤ 5 := by have := (goodB_len h).2; unfold Rec.ats at this; rwa [List.length_map] at this
theorem ndrec_at {r : Rec} (h : goodB r.ats = true) : ∀ x ∈ r.l, 0 ≤ x.1 ∧ x.1 < 12 := fun x hx => goodB_at h x.1 (List.mem_map.2 ⟨x, hx, rfl⟩)
end Go.Proofs.Ytbdpocbnkgckhaa

/- What the statements of node need to know of the program's node, over the program's disk. -/
set_option maxRecDepth 4000
namespace Go.Proofs.Ytbdpocbnkgckhaa
open Go Go.RowKit
def ndCells (p : Value) (L : Lab) : Array Value := #[p, .int .u32 (wd L.e), .int .u32 (wd L.s), .int .u32 (wd L.n), .int .u16 (hd L.d), .int .u16 (hd L.l)]
/- a node in the block g: its disk is at p -/
structure NAt (D : DiskOps) (base : Nat) (w : World) (g : Nat) (p : Value) (M : DiskM) (L : Lab) (F : Nat → Prop) : Prop where
  disk : D.A base w p M F
  row : Row w g 59 (ndCells p L)
  lo : base ≤ g
  off : ¬ F g
def NSt (D : DiskOps) (base : Nat) (w : World) (g : Nat) (p : Value) (F : Nat → Prop) (M : DiskM) (L : Lab) (w' : World) : Prop := ∃ F', NAt D base w' g p M L F' ∧ Chg (fun k => F k ∨ k = g) w w' ∧ ∀ k, F' k → F k ∨ w.heap.size ≤ k
def NActs (D : DiskOps) (base : Nat) (w : World) (g : Nat) (p : Value) (F : Nat → Prop) (M : DiskM) (L : Lab) (r : Value) : Ending → World → Prop := fun e w' => e = .returned r ∧ NSt D base w g p F M L w'
section
variable {D : DiskOps} {base g : Nat} {w w1 w2 : World} {p : Value} {F : Nat → Prop} {M M' : DiskM} {L L' : Lab} {r : Value} {e : Ending}
theorem NAt.still (h : NAt D base w g p M L F) (k : Below w.heap.size w w1) : NAt D base w1 g p M L F := ⟨D.still h.disk k, h.row.call k, h.lo, h.off⟩
theorem NSt.start (h : NAt D base w g p M L F) : NSt D base w g p F M L w := ⟨F, h, Chg.refl _ w, fun _ h => .inl h⟩
theorem NSt.same (h : NSt D base w g p F M L w1) (k : Below w1.heap.size w1 w2) : NSt D base w g p F M L w2 := by
  obtain ⟨F1, h1, c1, s1⟩ := h
  exact ⟨F1, h1.still k, c1.trans (F' := fun _ => False) (Chg.of_below k) (fun _ h => h.elim), s1⟩
theorem NSt.drew (h : NSt D base w g p F M L w1) : NSt D base w g p F M L w1.drew := h.same (Below.refl _ _).drew
theorem NSt.size (h : NSt D base w g p F M L w1) : w.heap.size ≤ w1.heap.size := by obtain ⟨_, _, c, _⟩ := h; exact c.size
theorem NSt.chg (h : NSt D base w g p F M L w1) : Chg (fun k => F k ∨ k = g) w w1 := by obtain ⟨_, _, c, _⟩ := h; exact c
theorem NSt.row (h : NSt D base w g p F M L w1) : Row w1 g 59 (ndCells p L) := by obtain ⟨_, h, _⟩ := h; exact h.row
theorem NSt.ok (h : NSt D base w g p F M L w1) : M.Ok := by obtain ⟨_, h, _⟩ := h; exact D.ok h.disk
theorem NSt.acts (h : NSt D base w g p F M L w1) (hr : e = .returned r) : NActs D base w g p F M L r e w1 := ⟨hr, h⟩
/- the next call on the disk -/
theorem NSt.next (h : NSt D base w g p F M L w1) : ∃ F1, D.A base w1 p M F1 ∧ (∀ k, F1 k → F k ∨ w.heap.size ≤ k) ∧ ∀ M' w2, DSt D base w1 p F1 M' w2 → NSt D base w g p F M' L w2 := by
  obtain ⟨F1, h1, c1, s1⟩ := h
  refine ⟨F1, h1.disk, s1, ?_⟩
  rintro M' w2 ⟨F2, h2, c2, s2⟩
  refine ⟨F2, ⟨h2, h1.row.chg c2 h1.off, h1.lo, fun hk => (s2 g hk).elim h1.off fun hle => by have := h1.row.lt; omega⟩, c1.trans c2 (fun k hk => (s1 k hk).imp .inl id), fun k hk => (s2 k hk).elim (s1 k) (fun hle => .inr (Nat.le_trans c1.size hle))⟩
theorem NSt.rebase (hb : Below w.heap.size w w1) (h : NSt D base w1 g p F M L w2) : NSt D base w g p F M L w2 := by
  obtain ⟨F1, h1, c1, s1⟩ := h
  exact ⟨F1, h1, (Chg.of_below (F := fun k => F k ∨ k = g) hb).trans c1 (fun _ h => .inl h), fun k hk => (s1 k hk).elim .inl (fun hle => .inr (Nat.le_trans hb.size hle))⟩
/- what is below the base stays -/
theorem NSt.below (h : NSt D base w g p F M L w1) (h0 : NAt D base w g p M' L' F) (hB : base ≤ w.heap.size) : Below base w w1 := h.chg.below (fun k hk => hk.elim (fun hk => (D.lt h0.disk k hk).1) (fun e => by rw [e]; exact h0.lo)) hB
end
end Go.Proofs.Ytbdpocbnkgckhaa

/- A node's disk through writes, flushes, fuses and Ups: what an Apply, a SetLabel, an Open leave, wherever they are cut. No program is named here. -/
set_option maxRecDepth 4000
namespace Go.Proofs.Ytbdpocbnkgckhaa
abbrev Secs := List (List (BitVec 8))
/- a run of writes and flushes: gone through (what stands, what is loose), or cut: then whatever an Up keeps has P -/
def Run (f0 : Int) (x : Int × DiskM) (s : Secs) (l : List (Nat × List (BitVec 8))) (P : Secs → Prop) : Prop :=
  (∃ f, x = (0, ⟨s, l, f, false⟩) ∧ (f0 < 0 → f = f0) ∧ (0 ≤ f0 → 0 ≤ f)) ∨ (0 ≤ f0 ∧ x.1 = 20 ∧ x.2.down = true ∧ x.2.l.length ≤ 6 ∧ ∀ keep, P (DiskM.put x.2.s (DiskM.kept x.2.l keep)))
section
variable {f0 : Int} {a : Int × DiskM} {s : Secs} {l : List (Nat × List (BitVec 8))} {P P' : Secs → Prop}
theorem Run.start (f : Int) (s : Secs) (l : List (Nat × List (BitVec 8))) (P : Secs → Prop) : Run f (0, ⟨s, l, f, false⟩) s l P := .inl ⟨f, rfl, fun _ => rfl, id⟩
theorem Run.mono (h : Run f0 a s l P) (hP : ∀ s, P s → P' s) : Run f0 a s l P' := h.imp id fun ⟨h1, h2, h3, h4, h5⟩ => ⟨h1, h2, h3, h4, fun k => hP _ (h5 k)⟩
theorem Run.w (h : Run f0 a s l P) {i : Nat} {b : List (BitVec 8)} (hi : i < s.length) (hl : l.length ≤ 6) (hP : ∀ keep, P (DiskM.put s (DiskM.kept l keep))) : Run f0 (orElse a fun M => M.wRes (i : Int) b) s (l ++ [(i, b)]) P := by
  rcases h with ⟨f, rfl, hf, hg⟩ | ⟨h0, h1, h2, h3, h4⟩
  · rw [oe_ok rfl]
    by_cases hz : f = 0
    · subst hz
      rw [wRes_stop (M := ⟨s, l, 0, false⟩) hi rfl]
      exact .inr ⟨by omega, rfl, rfl, hl, hP⟩
    · rw [wRes_go (M := ⟨s, l, f, false⟩) hi rfl hz]
      refine .inl ⟨left f 1, rfl, fun h => ?_, fun h => ?_⟩ <;> unfold left <;> split <;> omega
  · rw [oe_no (by omega)]
    exact .inr ⟨h0, h1, h2, h3, h4⟩
theorem Run.f (h : Run f0 a s l P) (hl : l.length ≤ 6) (hP : ∀ keep, P (DiskM.put s (DiskM.kept l keep))) : Run f0 (orElse a fun M => M.fRes) (DiskM.put s l) [] P := by
  rcases h with ⟨f, rfl, hf, hg⟩ | ⟨h0, h1, h2, h3, h4⟩
  · rw [oe_ok rfl]
    by_cases hz : f = 0
    · subst hz
      rw [fRes_stop (M := ⟨s, l, 0, false⟩) rfl]
      exact .inr ⟨by omega, rfl, rfl, hl, hP⟩
    · rw [fRes_go (M := ⟨s, l, f, false⟩) rfl hz]
      refine .inl ⟨left f 1, rfl, fun h => ?_, fun h => ?_⟩ <;> unfold left <;> split <;> omega
  · rw [oe_no (by omega)]
    exact .inr ⟨h0, h1, h2, h3, h4⟩
/- the log's images -/
theorem Run.imgs : ∀ (bl : List (List (BitVec 8))) (a : Int × DiskM) (l : List (Nat × List (BitVec 8))) (i : Nat), Run f0 a s l P → i + bl.length ≤ s.length → l.length + bl.length ≤ 6 → (∀ k keep, P (DiskM.put s (DiskM.kept (l ++ (imgsL i bl).take k) keep))) → Run f0 (orElse a fun M => Go.Proofs.Ytbdpocbnkgckhaa.imgs M (i : Int) bl) s (l ++ imgsL i bl) P
  | [], a, l, i, h, _, _, _ => by
    rw [show (fun M => Go.Proofs.Ytbdpocbnkgckhaa.imgs M (i : Int) []) = fun M => (0, M) from rfl, oe_self]
    show Run f0 a s (l ++ []) P
    rw [List.append_nil]; exact h
  | b :: bl, a, l, i, h, hi, hl, hP => by
    rw [List.length_cons] at hi hl
    have h1 := h.w (i := i) (b := b) (by omega) (by omega) (fun keep => by have := hP 0 keep; rwa [List.take_zero, List.append_nil] at this)
    have h2 := Run.imgs bl _ _ (i + 1) h1 (by omega) (by rw [List.length_append]; show l.length + 1 + bl.length ≤ 6; omega) (fun k keep => by have := hP (k + 1) keep; rw [List.append_assoc]; exact this)
    rw [oe_assoc] at h2
    rw [List.append_assoc] at h2
    rw [show ((i + 1 : Nat) : Int) = (i : Int) + 1 by omega] at h2
    exact h2
def blks (l : List (Int × List (BitVec 8))) : List (Nat × List (BitVec 8)) := l.map fun x => (7 + x.1.toNat, x.2)
theorem Run.puts : ∀ (r : List (Int × List (BitVec 8))) (a : Int × DiskM) (l : List (Nat × List (BitVec 8))), Run f0 a s l P → s.length = 19 → (∀ x ∈ r, 0 ≤ x.1 ∧ x.1 < 12) → l.length + r.length ≤ 6 → (∀ k keep, P (DiskM.put s (DiskM.kept (l ++ (blks r).take k) keep))) → Run f0 (orElse a fun M => ndPuts M r) s (l ++ blks r) P
  | [], a, l, h, _, _, _, _ => by
    rw [show (fun M => ndPuts M []) = fun M => (0, M) from rfl, oe_self]
    show Run f0 a s (l ++ []) P
    rw [List.append_nil]; exact h
  | x :: r, a, l, h, hs, hx, hl, hP => by
    rw [List.length_cons] at hl
    obtain ⟨h3, h4⟩ := hx x (List.mem_cons_self ..)
    have h1 := h.w (i := 7 + x.1.toNat) (b := x.2) (by omega) (by omega) (fun keep => by have := hP 0 keep; rwa [List.take_zero, List.append_nil] at this)
    have h2 := Run.puts r _ _ h1 hs (fun y hy => hx y (List.mem_cons_of_mem _ hy)) (by rw [List.length_append]; show l.length + 1 + r.length ≤ 6; omega) (fun k keep => by have := hP (k + 1) keep; rw [List.append_assoc]; exact this)
    rw [oe_assoc] at h2
    rw [List.append_assoc] at h2
    rw [show ((7 + x.1.toNat : Nat) : Int) = 7 + x.1 by omega] at h2
    exact h2
end
/- what stands on the sectors: a label, a log that is not later, the blocks -/
abbrev Bks := Nat → List (BitVec 8)
def at0 (s : Secs) (i : Nat) : List (BitVec 8) := s.getD i []
def labIn (s : Secs) (L : Lab) : Prop := at0 s 0 = labB L ∨ (L = lab0 ∧ at0 s 0 = blk 0#8)
def numE (h : List (BitVec 8)) : BitVec 32 := num ((bodyOf h).take 4)
def numS (h : List (BitVec 8)) : BitVec 32 := num (((bodyOf h).drop 4).take 4)
structure Nds (s : Secs) (L : Lab) (B : Bks) : Prop where
  len : s.length = 19
  lab : labIn s L
  log : isHead (at0 s 1) = true → laterB (numE (at0 s 1)) (numS (at0 s 1)) L.e L.s = false
  blk : ∀ i, i < 12 → at0 s (7 + i) = B i
structure Nps (s : Secs) (L : Lab) (r : Rec) (B : Bks) : Prop where
  len : s.length = 19
  lab : labIn s L
  head : at0 s 1 = headB r.e r.s r.ats
  img : ∀ k, k < r.l.length → at0 s (2 + k) = (r.l.map (·.2)).getD k []
  good : goodB r.ats = true
  later : ndLater L r = true
  blk : ∀ i : Nat, i < 12 → (i : Int) ∉ r.ats → at0 s (7 + i) = B i
def updB (l : List (Int × List (BitVec 8))) (B : Bks) : Bks := l.foldl (fun B x => fun j => if (j : Int) = x.1 then x.2 else B j) B
theorem at_far {s : Secs} {x : List (Nat × List (BitVec 8))} {i : Nat} (h : ∀ y ∈ x, y.1 ≠ i) : at0 (DiskM.put s x) i = at0 s i := put_far x s i h
theorem at_keep {s : Secs} {x : List (Nat × List (BitVec 8))} {keep : List (BitVec 8)} {i : Nat} (h : ∀ y ∈ x, y.1 ≠ i) : at0 (DiskM.put s (DiskM.kept x keep)) i = at0 s i := at_far fun y hy => h y (DiskM.kept_mem hy)
theorem at_set {s : Secs} {i : Nat} {b : List (BitVec 8)} (h : i < s.length) : at0 (s.set i b) i = b := by unfold at0; rw [List.getD_eq_getElem?_getD, List.getElem?_set_self h]; rfl
theorem at_ne {s : Secs} {i j : Nat} {b : List (BitVec 8)} (h : i ≠ j) : at0 (s.set i b) j = at0 s j := by unfold at0; rw [List.getD_eq_getElem?_getD, List.getElem?_set_ne h, List.getD_eq_getElem?_getD]
theorem blks_at {l : List (Int × List (BitVec 8))} {y : Nat × List (BitVec 8)} (h : y ∈ blks l) : ∃ x ∈ l, y.1 = 7 + x.1.toNat := by
  unfold blks at h
  obtain ⟨x, hx, rfl⟩ := List.mem_map.1 h
  exact ⟨x, hx, rfl⟩
theorem put_blks : ∀ (l : List (Int × List (BitVec 8))) (s : Secs) (B : Bks), s.length = 19 → (∀ x ∈ l, 0 ≤ x.1 ∧ x.1 < 12) → (∀ i : Nat, i < 12 → (∀ x ∈ l, x.1 ≠ (i : Int)) → at0 s (7 + i) = B i) → ∀ i : Nat, i < 12 → at0 (DiskM.put s (blks l)) (7 + i) = updB l B i
  | [], s, B, _, _, h, i, hi => h i hi (fun x hx => by cases hx)
  | x :: l, s, B, hs, hx, h, i, hi => by
    obtain ⟨h1, h2⟩ := hx x (List.mem_cons_self ..)
    refine put_blks l (s.set (7 + x.1.toNat) x.2) _ (by rw [List.length_set]; exact hs) (fun y hy => hx y (List.mem_cons_of_mem _ hy)) (fun j hj hn => ?_) i hi
    by_cases e : (j : Int) = x.1
    · show _ = if (j : Int) = x.1 then x.2 else B j
      rw [if_pos e, show 7 + j = 7 + x.1.toNat by omega, at_set (by omega)]
    · show _ = if (j : Int) = x.1 then x.2 else B j
      rw [if_neg e, at_ne (by omega)]
      exact h j hj fun y hy => by
        rcases List.mem_cons.1 hy with rfl | hy
        · exact fun e2 => e e2.symm
        · exact hn y hy
theorem put_blks_far {l : List (Int × List (BitVec 8))} {s : Secs} {i : Nat} (h : i < 7) : at0 (DiskM.put s (blks l)) i = at0 s i := at_far fun y hy => by obtain ⟨x, _, e⟩ := blks_at hy; omega
theorem put_keep_len (s : Secs) (l : List (Nat × List (BitVec 8))) : (DiskM.put s l).length = s.length := DiskM.length_put _ _
theorem kept_1 (x : Nat × List (BitVec 8)) (keep : List (BitVec 8)) : DiskM.kept [x] keep = [] ∨ DiskM.kept [x] keep = [x] := by
  unfold DiskM.kept
  cases keep with
  | nil => left; rfl
  | cons y keep =>
    rw [List.zip_cons_cons, List.zip_nil_left, List.filter_cons]
    split
    · right; rfl
    · left; rfl
theorem later_self (e s : BitVec 32) : laterB e s e s = false := by unfold laterB; simp
section
variable {s : Secs} {L L' : Lab} {B : Bks} {r : Rec} {d : BitVec 16} {f : Int}
theorem head_num (hg : goodB r.ats = true) : numE (headB r.e r.s r.ats) = r.e ∧ numS (headB r.e r.s r.ats) = r.s := by
  obtain ⟨_, _, _, h4, h5⟩ := head_is (e := r.e) (s := r.s) hg
  exact ⟨h4, h5⟩
/- carrying out: from the blocks' writes on -/
theorem carry_run (h : Nps s L r B) : ∃ s4, Run f (ndCarry ⟨s, [], f, false⟩ L r d) s4 [] (fun s => Nps s L r B ∨ Nds s (doneLab L r d) (updB r.l B)) ∧ Nds s4 (doneLab L r d) (updB r.l B) ∧ at0 s4 1 = headB r.e r.s r.ats := by
  have hat := ndrec_at h.good
  have hl5 := ndrec_len h.good
  have hin : ∀ x ∈ r.l, x.1 ∈ r.ats := fun x hx => List.mem_map.2 ⟨x, hx, rfl⟩
  -- Np stays while blocks are written
  have hNp : ∀ x : List (Nat × List (BitVec 8)), (∀ y ∈ x, y ∈ blks r.l) → ∀ keep, Nps (DiskM.put s (DiskM.kept x keep)) L r B := fun x hx keep => by
    have far : ∀ i, i < 7 → at0 (DiskM.put s (DiskM.kept x keep)) i = at0 s i := fun i hi => at_keep fun y hy => by obtain ⟨z, _, e⟩ := blks_at (hx y hy); omega
    refine ⟨by rw [put_keep_len]; exact h.len, ?_, by rw [far 1 (by decide)]; exact h.head, fun k hk => by rw [far _ (by omega)]; exact h.img k hk, h.good, h.later, fun i hi hn => ?_⟩
    · unfold labIn; rw [far 0 (by decide)]; exact h.lab
    · rw [at_keep fun y hy => ?_, h.blk i hi hn]
      obtain ⟨z, hz, e⟩ := blks_at (hx y hy)
      intro e2
      exact hn (by have := hat z hz; rw [show (i : Int) = z.1 by omega]; exact hin z hz)
  have R0 := Run.start f s [] (fun s => Nps s L r B ∨ Nds s (doneLab L r d) (updB r.l B))
  have R1 := R0.puts r.l _ _ h.len hat (by show 0 + r.l.length ≤ 6; omega) (fun k keep => .inl (hNp _ (fun y hy => List.mem_of_mem_take (by simpa using hy)) keep))
  rw [List.nil_append] at R1
  have R2 := R1.f (by unfold blks; rw [List.length_map]; omega) (fun keep => .inl (hNp _ (fun y hy => hy) keep))
  have hb : ∀ i, i < 12 → at0 (DiskM.put s (blks r.l)) (7 + i) = updB r.l B i := put_blks r.l s B h.len hat (fun i hi hn => h.blk i hi fun hm => by
    obtain ⟨x, hx, e⟩ := List.mem_map.1 hm
    exact hn x hx e)
  obtain ⟨s3, hs3⟩ : ∃ s3, DiskM.put s (blks r.l) = s3 := ⟨_, rfl⟩
  have hlen : s3.length = 19 := by rw [← hs3, put_keep_len]; exact h.len
  have hfar : ∀ i, i < 7 → at0 s3 i = at0 s i := fun i hi => by rw [← hs3]; exact put_blks_far hi
  rw [hs3] at R2 hb
  have hNp3 : Nps s3 L r B := ⟨hlen, by unfold labIn; rw [hfar 0 (by decide)]; exact h.lab, by rw [hfar 1 (by decide)]; exact h.head, fun k hk => by rw [hfar _ (by omega)]; exact h.img k hk, h.good, h.later, fun i hi hn => by
    rw [← hs3, at_far fun y hy => ?_, h.blk i hi hn]
    obtain ⟨z, hz, e⟩ := blks_at hy
    intro e2
    exact hn (by have := hat z hz; rw [show (i : Int) = z.1 by omega]; exact hin z hz)⟩
  have hNd : Nds (s3.set 0 (labB (doneLab L r d))) (doneLab L r d) (updB r.l B) := by
    refine ⟨by rw [List.length_set]; exact hlen, .inl (at_set (by omega)), fun _ => ?_, fun i hi => by rw [at_ne (by omega)]; exact hb i hi⟩
    rw [at_ne (by decide), hfar 1 (by decide), h.head, (head_num h.good).1, (head_num h.good).2]
    exact later_self _ _
  have R3 := R2.w (i := 0) (b := labB (doneLab L r d)) (by omega) (by decide) (fun keep => .inl (by rw [show DiskM.kept [] keep = [] from rfl]; exact hNp3))
  have R4 := R3.f (by show 1 ≤ 6; decide) (fun keep => by
    rw [List.nil_append]
    rcases kept_1 (0, labB (doneLab L r d)) keep with e | e <;> rw [e]
    · exact .inl hNp3
    · exact .inr hNd)
  rw [List.nil_append] at R4
  refine ⟨s3.set 0 (labB (doneLab L r d)), ?_, hNd, by rw [at_ne (by decide), hfar 1 (by decide)]; exact h.head⟩
  have e : ndCarry ⟨s, [], f, false⟩ L r d = orElse (orElse (orElse (orElse (0, ⟨s, [], f, false⟩) fun M => ndPuts M r.l) fun M => M.fRes) fun M => M.wRes ((0 : Nat) : Int) (labB (doneLab L r d))) fun M => M.fRes := by
    rw [oe_ok (a := (0, _)) rfl, oe_assoc]
    rfl
  rw [e]; exact R4
/- an Apply -/
theorem apply_run (h : Nds s L B) (hg : goodB r.ats = true) (hlt : ndLater L r = true) : ∃ s4, Run f (ndApply ⟨s, [], f, false⟩ L r d) s4 [] (fun s => Nds s L B ∨ Nps s L r B ∨ Nds s (doneLab L r d) (updB r.l B)) ∧ Nds s4 (doneLab L r d) (updB r.l B) ∧ at0 s4 1 = headB r.e r.s r.ats := by
  have hl5 := ndrec_len hg
  obtain ⟨bl, hbl⟩ : ∃ bl, r.l.map (·.2) = bl := ⟨_, rfl⟩
  have hbn : bl.length = r.l.length := by rw [← hbl, List.length_map]
  obtain ⟨H, hH⟩ : ∃ H, headB r.e r.s r.ats = H := ⟨_, rfl⟩
  have hold : ∀ x : List (Nat × List (BitVec 8)), (∀ y ∈ x, 2 ≤ y.1 ∧ y.1 < 7) → Nds (DiskM.put s x) L B := fun x hx => by
    refine ⟨by rw [put_keep_len]; exact h.len, ?_, ?_, fun i hi => by rw [at_far fun y hy => by have := hx y hy; omega]; exact h.blk i hi⟩
    · unfold labIn; rw [at_far fun y hy => by have := hx y hy; omega]; exact h.lab
    · rw [at_far fun y hy => by have := hx y hy; omega]; exact h.log
  have himg : ∀ y ∈ imgsL 2 bl, 2 ≤ y.1 ∧ y.1 < 7 := fun y hy => by have := imgsL_mem bl 2 y hy; omega
  have R0 := Run.start f s [] (fun s => Nds s L B ∨ Nps s L r B ∨ Nds s (doneLab L r d) (updB r.l B))
  have R1 := R0.imgs bl _ _ 2 (by rw [h.len]; omega) (by show 0 + bl.length ≤ 6; omega) (fun k keep => .inl (hold _ fun y hy => himg y (List.mem_of_mem_take (by simpa using DiskM.kept_mem hy))))
  rw [List.nil_append] at R1
  have R2 := R1.f (by rw [length_imgsL]; omega) (fun keep => .inl (hold _ fun y hy => himg y (DiskM.kept_mem hy)))
  obtain ⟨s1, hs1⟩ : ∃ s1, DiskM.put s (imgsL 2 bl) = s1 := ⟨_, rfl⟩
  have h1 : Nds s1 L B := hs1 ▸ hold _ himg
  have hi1 : ∀ k, k < r.l.length → at0 s1 (2 + k) = (r.l.map (·.2)).getD k [] := fun k hk => by rw [← hs1, hbl]; exact put_at bl 2 s k (by rw [h.len]; omega) (by omega)
  rw [hs1] at R2
  have R3 := R2.w (i := 1) (b := H) (by rw [h1.len]; decide) (by decide) (fun keep => .inl (by rw [show DiskM.kept [] keep = [] from rfl]; exact h1))
  have h2 : Nps (s1.set 1 H) L r B := by
    refine ⟨by rw [List.length_set]; exact h1.len, ?_, by rw [at_set (by rw [h1.len]; decide), hH], fun k hk => by rw [at_ne (by omega)]; exact hi1 k hk, hg, hlt, fun i hi _ => by rw [at_ne (by omega)]; exact h1.blk i hi⟩
    unfold labIn; rw [at_ne (by decide)]; exact h1.lab
  have R4 := R3.f (by show 1 ≤ 6; decide) (fun keep => by
    rw [List.nil_append]
    rcases kept_1 (1, H) keep with e | e <;> rw [e]
    · exact .inl h1
    · exact .inr (.inl h2))
  rw [List.nil_append] at R4
  have R4 : Run f (walPut ⟨s, [], f, false⟩ 1 r) (s1.set 1 H) [] (fun s => Nds s L B ∨ Nps s L r B ∨ Nds s (doneLab L r d) (updB r.l B)) := by
    have e : walPut ⟨s, [], f, false⟩ 1 r = orElse (orElse (orElse (orElse (0, ⟨s, [], f, false⟩) fun M => imgs M ((2 : Nat) : Int) bl) fun M => M.fRes) fun M => M.wRes ((1 : Nat) : Int) H) fun M => M.fRes := by
      unfold walPut
      rw [show mayB ⟨s, [], f, false⟩ 1 = true by unfold mayB; simp; rw [h.len]; decide, hg, hbl, hH, show (true && true) = true from rfl, if_pos rfl, oe_ok (a := (0, _)) rfl, oe_assoc, oe_assoc]
      rfl
    rw [e]; exact R4
  unfold ndApply
  rw [if_pos hg, if_pos hlt]
  rcases R4 with ⟨f4, e4, hf1, hf2⟩ | ⟨c0, c1, c2, c3, c4⟩
  · rw [e4, oe_ok rfl]
    obtain ⟨s4, C, hN⟩ := carry_run (f := f4) (d := d) h2
    refine ⟨s4, ?_, hN⟩
    rcases C with ⟨f5, e5, hf3, hf4⟩ | ⟨d0, d1, d2, d3, d4⟩
    · exact .inl ⟨f5, e5, fun h => by rw [hf3 (by rw [hf1 h]; exact h), hf1 h], fun h => hf4 (hf2 h)⟩
    · exact .inr ⟨by by_cases c : f < 0; (have := hf1 c; omega); omega, d1, d2, d3, fun keep => .inr (d4 keep)⟩
  · rw [oe_no (by omega)]
    obtain ⟨s4, _, hN⟩ := carry_run (f := 0) (d := d) h2
    exact ⟨s4, .inr ⟨c0, c1, c2, c3, c4⟩, hN⟩
theorem labIn_dec (h : labIn s L) : decLab (at0 s 0) = L ∧ decLabE (at0 s 0) = 0 := by
  rcases h with e | ⟨rfl, e⟩ <;> rw [e]
  · exact ⟨decLab_labB L, decLabE_labB L⟩
  · exact ⟨by unfold decLab; rw [if_pos (by rfl)], by unfold decLabE; rw [if_pos (by rfl)]⟩
theorem rres_at {i : Nat} (h : i < s.length) : DiskM.rRes ⟨s, [], f, false⟩ (i : Int) = (at0 s i, 0) := by
  unfold DiskM.rRes
  rw [show DiskM.has ⟨s, [], f, false⟩ (i : Int) = true by unfold DiskM.has; simp; omega, if_pos rfl, if_neg (show ¬ false = true by decide), Int.toNat_natCast]; rfl
theorem block_at (h : Nds s L B) {i : Nat} (hi : i < 12) : ndBlock ⟨s, [], f, false⟩ (i : Int) = (B i, 0) := by
  unfold ndBlock
  rw [if_pos (by omega), show (7 + (i : Int)) = ((7 + i : Nat) : Int) by omega, rres_at (by rw [h.len]; omega), h.blk i hi]
/- an Open -/
theorem open_head (hl : s.length = 19) (h : labIn s L) : ndOpen ⟨s, [], f, false⟩ = ndCatch ⟨s, [], f, false⟩ L ∧ ndOpenL ⟨s, [], f, false⟩ = ndCatchL ⟨s, [], f, false⟩ L := by
  obtain ⟨h1, h2⟩ := labIn_dec h
  have h3 : DiskM.rRes ⟨s, [], f, false⟩ 0 = (at0 s 0, 0) := rres_at (i := 0) (by omega)
  unfold ndOpen ndOpenL
  rw [if_pos hl, h3, if_pos rfl, if_pos h2]
  exact ⟨by rw [h1], by rw [h1]⟩
theorem walGet_at (hl : s.length = 19) : walGet ⟨s, [], f, false⟩ 1 = if isHead (at0 s 1) then (recAt ⟨s, [], f, false⟩ 1, 0) else (rec0, 11) := by
  unfold walGet
  rw [show mayB ⟨s, [], f, false⟩ 1 = true by unfold mayB; simp; rw [hl]; decide, if_pos rfl, if_neg (show ¬ false = true by decide)]
  rfl
theorem open_still (h : Nds s L B) : ndOpen ⟨s, [], f, false⟩ = (0, ⟨s, [], f, false⟩) ∧ ndOpenL ⟨s, [], f, false⟩ = L := by
  obtain ⟨h1, h2⟩ := open_head (f := f) h.len h.lab
  have hw := walGet_at (f := f) h.len
  rw [h1, h2]
  cases hi : isHead (at0 s 1) with
  | false =>
    rw [hi, if_neg (by decide)] at hw
    exact ndCatch_11 (by rw [hw])
  | true =>
    rw [hi, if_pos rfl] at hw
    refine ndCatch_s (by rw [hw]) ?_
    rw [hw]
    exact h.log hi
theorem nds_new : Nds (List.replicate 19 (blk 0#8)) lab0 (fun _ => blk 0#8) := by
  have h : ∀ i, i < 19 → at0 (List.replicate 19 (blk 0#8)) i = blk 0#8 := fun i hi => by
    unfold at0; rw [List.getD_eq_getElem?_getD, List.getElem?_replicate, if_pos hi]; rfl
  refine ⟨List.length_replicate, .inr ⟨rfl, h 0 (by decide)⟩, fun hh => ?_, fun i hi => h _ (by omega)⟩
  rw [h 1 (by decide)] at hh
  rw [show isHead (blk 0#8) = false by kernel_rfl] at hh
  cases hh
end
end Go.Proofs.Ytbdpocbnkgckhaa
