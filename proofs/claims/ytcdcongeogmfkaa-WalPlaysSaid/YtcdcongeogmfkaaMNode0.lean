/- Merged: NodeSpec NdPure NodeIf NdTorn. -/
import Derived.Test.YtcdcongeogmfkaaMWal0
import Derived.Test.YtcdcongeogmfkaaMLabel0
import Derived.Test.YtcdcongeogmfkaaMDisk0
/- A tenant's part of a node as plain data: a disk of 19 sectors and a label; what each call makes of them. No program is named here. -/
set_option maxRecDepth 4000
namespace Go.Proofs.Ytcdcongeogmfkaa
def ndPuts (M : DiskM) : List (Int × List (BitVec 8)) → Int × DiskM
  | [] => (0, M)
  | x :: l => orElse (M.wRes (7 + x.1) x.2) fun M => ndPuts M l
end Go.Proofs.Ytcdcongeogmfkaa

/- A node's calls as plain data: puts written one by one. No program is named here. -/
set_option maxRecDepth 4000
namespace Go.Proofs.Ytcdcongeogmfkaa
theorem oe_ok {a : Int × DiskM} {k : DiskM → Int × DiskM} (h : a.1 = 0) : orElse a k = k a.2 := if_pos h
theorem oe_no {a : Int × DiskM} {k : DiskM → Int × DiskM} (h : ¬ a.1 = 0) : orElse a k = a := if_neg h
theorem oe_self (a : Int × DiskM) : orElse a (fun M => (0, M)) = a := by
  by_cases h : a.1 = 0
  · rw [oe_ok h, ← h]
  · rw [oe_no h]
theorem oe_assoc (a : Int × DiskM) (j k : DiskM → Int × DiskM) : orElse (orElse a j) k = orElse a fun M => orElse (j M) k := by
  by_cases h : a.1 = 0
  · rw [oe_ok h, oe_ok h]
  · rw [oe_no h, oe_no h, oe_no h]
section
variable {M : DiskM} {l : List (Int × List (BitVec 8))} {k n : Nat} {x : Int × List (BitVec 8)}
end
section
variable {M : DiskM} {L : Lab} {r : Rec} {d : BitVec 16}
end
end Go.Proofs.Ytcdcongeogmfkaa

/- What the statements of node need to know of the program's node, over the program's disk. -/
set_option maxRecDepth 4000
namespace Go.Proofs.Ytcdcongeogmfkaa
open Go Go.RowKit
section
variable {D : DiskOps} {base g : Nat} {w w1 w2 : World} {p : Value} {F : Nat → Prop} {M M' : DiskM} {L L' : Lab} {r : Value} {e : Ending}
end
end Go.Proofs.Ytcdcongeogmfkaa

/- A node's disk through writes, flushes, fuses and Ups: what an Apply, a SetLabel, an Open leave, wherever they are cut. No program is named here. -/
set_option maxRecDepth 4000
namespace Go.Proofs.Ytcdcongeogmfkaa
abbrev Secs := List (List (BitVec 8))
/- a run of writes and flushes: gone through (what stands, what is loose), or cut: then whatever an Up keeps has P -/
def Run (f0 : Int) (x : Int × DiskM) (s : Secs) (l : List (Nat × List (BitVec 8))) (P : Secs → Prop) : Prop :=
  (∃ f, x = (0, ⟨s, l, f, false⟩) ∧ (f0 < 0 → f = f0) ∧ (0 ≤ f0 → 0 ≤ f)) ∨ (0 ≤ f0 ∧ x.1 = 20 ∧ x.2.down = true ∧ x.2.l.length ≤ 6 ∧ ∀ keep, P (DiskM.put x.2.s (DiskM.kept x.2.l keep)))
section
variable {f0 : Int} {a : Int × DiskM} {s : Secs} {l : List (Nat × List (BitVec 8))} {P P' : Secs → Prop}
theorem Run.start (f : Int) (s : Secs) (l : List (Nat × List (BitVec 8))) (P : Secs → Prop) : Run f (0, ⟨s, l, f, false⟩) s l P := .inl ⟨f, rfl, fun _ => rfl, id⟩
theorem Run.mono (h : Run f0 a s l P) (hP : ∀ s, P s → P' s) : Run f0 a s l P' := h.imp id fun ⟨h1, h2, h3, h4, h5⟩ => ⟨h1, h2, h3, h4, fun k => hP _ (h5 k)⟩
theorem Run.w (h : Run f0 a s l P) {i : Nat} {b : List (BitVec 8)} (hi : i < s.length) (hl : l.length ≤ 6) (hP : ∀ keep, P (DiskM.put s (DiskM.kept l keep))) : Run f0 (orElse a fun M => M.wRes (i : Int) b) s (l ++ [(i, b)]) P := by
  rcases h with ⟨f, rfl, hf, hg⟩ | ⟨h0, h1, h2, h3, h4⟩
  · rw [oe_ok rfl]
    by_cases hz : f = 0
    · subst hz
      rw [wRes_stop (M := ⟨s, l, 0, false⟩) hi rfl]
      exact .inr ⟨by omega, rfl, rfl, hl, hP⟩
    · rw [wRes_go (M := ⟨s, l, f, false⟩) hi rfl hz]
      refine .inl ⟨left f 1, rfl, fun h => ?_, fun h => ?_⟩ <;> unfold left <;> split <;> omega
  · rw [oe_no (by omega)]
    exact .inr ⟨h0, h1, h2, h3, h4⟩
theorem Run.f (h : Run f0 a s l P) (hl : l.length ≤ 6) (hP : ∀ keep, P (DiskM.put s (DiskM.kept l keep))) : Run f0 (orElse a fun M => M.fRes) (DiskM.put s l) [] P := by
  rcases h with ⟨f, rfl, hf, hg⟩ | ⟨h0, h1, h2, h3, h4⟩
  · rw [oe_ok rfl]
    by_cases hz : f = 0
    · subst hz
      rw [fRes_stop (M := ⟨s, l, 0, false⟩) rfl]
      exact .inr ⟨by omega, rfl, rfl, hl, hP⟩
    · rw [fRes_go (M := ⟨s, l, f, false⟩) rfl hz]
      refine .inl ⟨left f 1, rfl, fun h => ?_, fun h => ?_⟩ <;> unfold left <;> split <;> omega
  · rw [oe_no (by omega)]
    exact .inr ⟨h0, h1, h2, h3, h4⟩
/- the log's images -/
theorem Run.imgs : ∀ (bl : List (List (BitVec 8))) (a : Int × DiskM) (l : List (Nat × List (BitVec 8))) (i : Nat), Run f0 a s l P → i + bl.length ≤ s.length → l.length + bl.length ≤ 6 → (∀ k keep, P (DiskM.put s (DiskM.kept (l ++ (imgsL i bl).take k) keep))) → Run f0 (orElse a fun M => Go.Proofs.Ytcdcongeogmfkaa.imgs M (i : Int) bl) s (l ++ imgsL i bl) P
  | [], a, l, i, h, _, _, _ => by
    rw [show (fun M => Go.Proofs.Ytcdcongeogmfkaa.imgs M (i : Int) []) = fun M => (0, M) from rfl, oe_self]
    show Run f0 a s (l ++ []) P
    rw [List.append_nil]; exact h
  | b :: bl, a, l, i, h, hi, hl, hP => by
    rw [List.length_cons] at hi hl
    have h1 := h.w (i := i) (b := b) (by omega) (by omega) (fun keep => by have := hP 0 keep; rwa [List.take_zero, List.append_nil] at this)
    have h2 := Run.imgs bl _ _ (i + 1) h1 (by omega) (by rw [List.length_append]; show l.length + 1 + bl.length ≤ 6; omega) (fun k keep => by have := hP (k + 1) keep; rw [List.append_assoc]; exact this)
    rw [oe_assoc] at h2
    rw [List.append_assoc] at h2
    rw [show ((i + 1 : Nat) : Int) = (i : Int) + 1 by omega] at h2
    exact h2
def blks (l : List (Int × List (BitVec 8))) : List (Nat × List (BitVec 8)) := l.map fun x => (7 + x.1.toNat, x.2)
theorem Run.puts : ∀ (r : List (Int × List (BitVec 8))) (a : Int × DiskM) (l : List (Nat × List (BitVec 8))), Run f0 a s l P → s.length = 19 → (∀ x ∈ r, 0 ≤ x.1 ∧ x.1 < 12) → l.length + r.length ≤ 6 → (∀ k keep, P (DiskM.put s (DiskM.kept (l ++ (blks r).take k) keep))) → Run f0 (orElse a fun M => ndPuts M r) s (l ++ blks r) P
  | [], a, l, h, _, _, _, _ => by
    rw [show (fun M => ndPuts M []) = fun M => (0, M) from rfl, oe_self]
    show Run f0 a s (l ++ []) P
    rw [List.append_nil]; exact h
  | x :: r, a, l, h, hs, hx, hl, hP => by
    rw [List.length_cons] at hl
    obtain ⟨h3, h4⟩ := hx x (List.mem_cons_self ..)
    have h1 := h.w (i := 7 + x.1.toNat) (b := x.2) (by omega) (by omega) (fun keep => by have := hP 0 keep; rwa [List.take_zero, List.append_nil] at this)
    have h2 := Run.puts r _ _ h1 hs (fun y hy => hx y (List.mem_cons_of_mem _ hy)) (by rw [List.length_append]; show l.length + 1 + r.length ≤ 6; omega) (fun k keep => by have := hP (k + 1) keep; rw [List.append_assoc]; exact this)
    rw [oe_assoc] at h2
    rw [List.append_assoc] at h2
    rw [show ((7 + x.1.toNat : Nat) : Int) = 7 + x.1 by omega] at h2
    exact h2
end
/- what stands on the sectors: a label, a log that is not later, the blocks -/
abbrev Bks := Nat → List (BitVec 8)
def at0 (s : Secs) (i : Nat) : List (BitVec 8) := s.getD i []
section
variable {s : Secs} {L L' : Lab} {B : Bks} {r : Rec} {d : BitVec 16} {f : Int}
theorem rres_at {i : Nat} (h : i < s.length) : DiskM.rRes ⟨s, [], f, false⟩ (i : Int) = (at0 s i, 0) := by
  unfold DiskM.rRes
  rw [show DiskM.has ⟨s, [], f, false⟩ (i : Int) = true by unfold DiskM.has; simp; omega, if_pos rfl, if_neg (show ¬ false = true by decide), Int.toNat_natCast]; rfl
end
end Go.Proofs.Ytcdcongeogmfkaa
