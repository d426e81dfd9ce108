/- What a primary has out, plainly. No function of the program is named here. -/
import Derived.Test.YtppbgkdkioldbaaPktSpec
import Derived.Test.YtppbgkdkioldbaaLabBits
set_option maxRecDepth 4000
namespace Go.Proofs.Ytppbgkdkioldbaa
open Go Go.RowKit
structure Snd where
  o : Pkt
  p : Pkt
  n : Int
  t : Bool
  deriving DecidableEq
def snd0 : Snd := ⟨pkt0, pkt0, 0, false⟩
def opB (p : Pkt) : Bool := decide (p.k = 1 ∨ p.k = 2) && mayP p
def sendE (S : Snd) (p : Pkt) : Int := if opB p = true then (if S.o.k = 0 then 0 else 19) else 1
def sendS (S : Snd) (p : Pkt) : Snd := if opB p = true ∧ S.o.k = 0 then ⟨p, S.p, 0, false⟩ else S
def stopS (S : Snd) (early : Bool) : Snd := ⟨pkt0, if early then (if S.o.k = 0 then S.p else S.o) else pkt0, 0, false⟩
def missS (S : Snd) : Snd := if S.o.k = 0 then S else ⟨S.o, S.p, S.n + 1, S.t⟩
def missN (S : Snd) : Int := if S.o.k = 0 then 0 else S.n + 1
def ackB (S : Snd) (a : Pkt) : Bool := decide (S.o.k ≠ 0) && decide (a.k = 3) && decide (a.e = S.o.e) && decide (a.s = S.o.s)
def ackS (S : Snd) (a : Pkt) : Snd := if ackB S a = true then stopS S true else S
def touchB (S : Snd) (l : List Pt) : Bool := decide (S.o.k = 2) && decide (bitsOf (l.map (·.1)) &&& bitsOf ((S.o.l.take 1).map (·.1)) ≠ 0#16)
def touchS (S : Snd) (l : List Pt) : Snd := if touchB S l = true then ⟨S.o, S.p, S.n, true⟩ else S
/- what is out is none, or a packet that may be -/
def OutOk (S : Snd) : Prop := S.o = pkt0 ∨ opB S.o = true
theorem opB_k {p : Pkt} (h : opB p = true) : p.k = 1 ∨ p.k = 2 := by
  unfold opB at h
  exact of_decide_eq_true (Bool.and_eq_true _ _ ▸ h).1
theorem opB_may {p : Pkt} (h : opB p = true) : mayP p = true := (Bool.and_eq_true _ _ ▸ h).2
theorem opB_put {p : Pkt} (h : opB p = true) : 1 ≤ p.l.length ∧ p.l.length ≤ 5 := by
  have h2 := opB_may h
  unfold mayP at h2
  rw [if_pos (opB_k h)] at h2
  unfold goodB at h2
  simp only [Bool.and_eq_true, decide_eq_true_eq, List.length_map] at h2
  exact h2.2
theorem OutOk.send {S : Snd} (h : OutOk S) (p : Pkt) : OutOk (sendS S p) := by
  unfold sendS
  split
  · rename_i h2; exact .inr h2.1
  · exact h
theorem OutOk.stop (S : Snd) (b : Bool) : OutOk (stopS S b) := .inl rfl
theorem OutOk.miss {S : Snd} (h : OutOk S) : OutOk (missS S) := by
  unfold missS
  split <;> exact h
theorem OutOk.ack {S : Snd} (h : OutOk S) (a : Pkt) : OutOk (ackS S a) := by
  unfold ackS
  split
  · exact .inl rfl
  · exact h
theorem OutOk.touch {S : Snd} (h : OutOk S) (l : List Pt) : OutOk (touchS S l) := by
  unfold touchS
  split <;> exact h
theorem OutOk.len {S : Snd} (h : OutOk S) : S.o.l.length ≤ 5 := by
  rcases h with h | h
  · rw [h]; decide
  · exact (opB_put h).2
end Go.Proofs.Ytppbgkdkioldbaa
