/- What a statement needs to know of the program's disk and of the document's: one account of both. -/
import Derived.Test.YteehpdeeaebliaaDiskRefN
namespace Go.Proofs.Yteehpdeeaebliaa
open Go Go.RowKit
namespace DiskM
def wRes (M : DiskM) (i : Int) (b : List (BitVec 8)) : Int × DiskM := if M.has i then (if M.stuck then (20, M.fell) else (0, M.wrote i.toNat b)) else (1, M)
def fRes (M : DiskM) : Int × DiskM := if M.stuck then (20, M.fell) else (0, M.flushed)
def rRes (M : DiskM) (i : Int) : List (BitVec 8) × Int := if M.has i then (if M.down then (blk 0#8, 20) else (M.now i.toNat, 0)) else (blk 0#8, 1)
def fused (M : DiskM) (n : Int) : DiskM := { M with f := n }
end DiskM
/- a call that works on the thing at p: what it answers, what the thing is then; nothing else is changed -/
def Acts (A : Nat → World → Value → DiskM → (Nat → Prop) → Prop) (base : Nat) (w : World) (p : Value) (F : Nat → Prop) (M' : DiskM) (r : Value) : Ending → World → Prop := fun e w' => e = .returned r ∧ ∃ F', A base w' p M' F' ∧ Chg F w w' ∧ ∀ k, F' k → F k ∨ w.heap.size ≤ k
def Asks (w : World) (r : Value) : Ending → World → Prop := fun e w' => e = .returned r ∧ Below w.heap.size w w'
def Makes (A : Nat → World → Value → DiskM → (Nat → Prop) → Prop) (base : Nat) (w : World) (n : Int) : Ending → World → Prop := fun e w' =>
  if 1 ≤ n ∧ n ≤ 1024 then ∃ g F, e = .returned (.tuple #[.pointer (some ⟨g, 0, none⟩), .int .i64 0]) ∧ A base w' (.pointer (some ⟨g, 0, none⟩)) (DiskM.new n.toNat) F ∧ Below w.heap.size w w' ∧ ∀ k, F k → w.heap.size ≤ k
  else e = .returned (.tuple #[.pointer none, .int .i64 1]) ∧ Below w.heap.size w w'
theorem makes_yes (A : Nat → World → Value → DiskM → (Nat → Prop) → Prop) (base : Nat) (w : World) (n : Int) (h : 1 ≤ n ∧ n ≤ 1024) : Makes A base w n = fun e w' => ∃ g F, e = .returned (.tuple #[.pointer (some ⟨g, 0, none⟩), .int .i64 0]) ∧ A base w' (.pointer (some ⟨g, 0, none⟩)) (DiskM.new n.toNat) F ∧ Below w.heap.size w w' ∧ ∀ k, F k → w.heap.size ≤ k := by
  funext e w'; unfold Makes; rw [if_pos h]
theorem makes_no (A : Nat → World → Value → DiskM → (Nat → Prop) → Prop) (base : Nat) (w : World) (n : Int) (h : ¬ (1 ≤ n ∧ n ≤ 1024)) : Makes A base w n = fun e w' => e = .returned (.tuple #[.pointer none, .int .i64 1]) ∧ Below w.heap.size w w' := by
  funext e w'; unfold Makes; rw [if_neg h]
def nilPtr : Value := .pointer none
def few : Nat := 1000000000
structure DiskOps where
  A : Nat → World → Value → DiskM → (Nat → Prop) → Prop
  ok : ∀ {base w p M F}, A base w p M F → M.Ok
  lt : ∀ {base w p M F}, A base w p M F → ∀ k, F k → base ≤ k ∧ k < w.heap.size
  ptr : ∀ {base w p M F}, A base w p M F → ∃ g, p = .pointer (some ⟨g, 0, none⟩)
  keep : ∀ {base w w' p M F G}, A base w p M F → Chg G w w' → (∀ k, F k → ¬ G k) → A base w' p M F
  new : ∀ (base : Nat) (w : World) (n : Int), base ≤ w.heap.size → (-9223372036854775808 ≤ n ∧ n < 9223372036854775808) → Calls Try.prog 10 #[.int .i64 n] w (Makes A base w n)
  write : ∀ (base : Nat) (w : World) (p : Value) (M : DiskM) (F : Nat → Prop) (i : Int) (b : List (BitVec 8)), A base w p M F → b.length = 32 → M.l.length ≤ few → (-9223372036854775808 ≤ i ∧ i < 9223372036854775808) → Calls Try.prog 12 #[p, .int .i64 i, .agg (bs b)] w (Acts A base w p F (M.wRes i b).2 (.int .i64 (M.wRes i b).1))
  read : ∀ (base : Nat) (w : World) (p : Value) (M : DiskM) (F : Nat → Prop) (i : Int), A base w p M F → M.l.length ≤ few → (-9223372036854775808 ≤ i ∧ i < 9223372036854775808) → Calls Try.prog 15 #[p, .int .i64 i] w (Asks w (.tuple #[.agg (bs (M.rRes i).1), .int .i64 (M.rRes i).2]))
  flush : ∀ (base : Nat) (w : World) (p : Value) (M : DiskM) (F : Nat → Prop), A base w p M F → M.l.length ≤ few → Calls Try.prog 17 #[p] w (Acts A base w p F M.fRes.2 (.int .i64 M.fRes.1))
  up : ∀ (base : Nat) (w : World) (p : Value) (M : DiskM) (F : Nat → Prop) (v : Value) (keep : List (BitVec 8)), A base w p M F → M.l.length ≤ few → Slice w v keep → keep.length ≤ few → (∀ k, v.ownBlock = some k → ¬ F k) → Calls Try.prog 19 #[p, v] w (Acts A base w p F (M.upped keep) (.tuple #[]))
  fuse : ∀ (base : Nat) (w : World) (p : Value) (M : DiskM) (F : Nat → Prop) (n : Int), A base w p M F → (-9223372036854775808 ≤ n ∧ n < 9223372036854775808) → Calls Try.prog 21 #[p, .int .i64 n] w (Acts A base w p F (M.fused n) (.tuple #[]))
  loose : ∀ (base : Nat) (w : World) (p : Value) (M : DiskM) (F : Nat → Prop), A base w p M F → M.l.length ≤ few → Calls Try.prog 22 #[p] w (Asks w (.int .i64 (M.l.length : Int)))
  down : ∀ (base : Nat) (w : World) (p : Value) (M : DiskM) (F : Nat → Prop), A base w p M F → Calls Try.prog 23 #[p] w (Asks w (.bool M.down))
  len : ∀ (base : Nat) (w : World) (p : Value) (M : DiskM) (F : Nat → Prop), A base w p M F → Calls Try.prog 24 #[p] w (Asks w (.int .i64 (M.s.length : Int)))
  writeNil : ∀ (w : World) (i : Int) (b : List (BitVec 8)), b.length = 32 → (-9223372036854775808 ≤ i ∧ i < 9223372036854775808) → Calls Try.prog 12 #[nilPtr, .int .i64 i, .agg (bs b)] w (Asks w (.int .i64 1))
  readNil : ∀ (w : World) (i : Int), (-9223372036854775808 ≤ i ∧ i < 9223372036854775808) → Calls Try.prog 15 #[nilPtr, .int .i64 i] w (Asks w (.tuple #[.agg (bs (blk 0#8)), .int .i64 1]))
  flushNil : ∀ (w : World), Calls Try.prog 17 #[nilPtr] w (Asks w (.int .i64 1))
  upNil : ∀ (w : World) (v : Value) (keep : List (BitVec 8)), Slice w v keep → keep.length ≤ few → Calls Try.prog 19 #[nilPtr, v] w (Asks w (.tuple #[]))
  fuseNil : ∀ (w : World) (n : Int), (-9223372036854775808 ≤ n ∧ n < 9223372036854775808) → Calls Try.prog 21 #[nilPtr, .int .i64 n] w (Asks w (.tuple #[]))
  looseNil : ∀ (w : World), Calls Try.prog 22 #[nilPtr] w (Asks w (.int .i64 0))
  downNil : ∀ (w : World), Calls Try.prog 23 #[nilPtr] w (Asks w (.bool false))
  lenNil : ∀ (w : World), Calls Try.prog 24 #[nilPtr] w (Asks w (.int .i64 0))
/- the document's -/
def RefAt : Nat → World → Value → DiskM → (Nat → Prop) → Prop := fun base w p M F => ∃ g vs vl, p = .pointer (some ⟨g, 0, none⟩) ∧ RefD base w g vs vl M ∧ F = fun k => k = g ∨ vs.ownBlock = some k ∨ vl.ownBlock = some k
theorem ref_lt {base : Nat} {w : World} {p : Value} {M : DiskM} {F : Nat → Prop} (h : RefAt base w p M F) : ∀ k, F k → base ≤ k ∧ k < w.heap.size := by
  obtain ⟨g, vs, vl, rfl, h, rfl⟩ := h
  rintro k (rfl | hk | hk)
  · exact ⟨h.hb, h.row.lt⟩
  · exact h.sec.lt k hk
  · exact h.loo.lt k hk
theorem ref_keep {base : Nat} {w w' : World} {p : Value} {M : DiskM} {F G : Nat → Prop} (h : RefAt base w p M F) (c : Chg G w w') (hF : ∀ k, F k → ¬ G k) : RefAt base w' p M F := by
  obtain ⟨g, vs, vl, rfl, h, rfl⟩ := h
  exact ⟨g, vs, vl, rfl, h.keep c (hF g (.inl rfl)) (fun k hk => hF k (.inr (.inl hk))) (fun k hk => hF k (.inr (.inr hk))), rfl⟩
theorem ref_ok {base : Nat} {w : World} {p : Value} {M : DiskM} {F : Nat → Prop} (h : RefAt base w p M F) : M.Ok := by
  obtain ⟨g, vs, vl, rfl, h, rfl⟩ := h; exact h.ok
theorem ref_new (base : Nat) (w : World) (n : Int) (hb : base ≤ w.heap.size) : Calls Try.prog 11 #[.int .i64 n] w (Makes RefAt base w n) := by
  refine (refnew_any base w n hb).mono ?_
  intro e w' h
  unfold NewPost at h
  unfold Makes
  by_cases hn : 1 ≤ n ∧ n ≤ 1024
  · rw [if_pos hn] at h ⊢
    obtain ⟨g, vs, rfl, h1, h2, h3, h4⟩ := h
    refine ⟨g, _, rfl, ⟨g, vs, _, rfl, h1, rfl⟩, h2, ?_⟩
    rintro k (rfl | hk | hk)
    · exact h3
    · exact h4 k hk
    · cases hk
  · rw [if_neg hn] at h ⊢
    obtain ⟨rfl, rfl⟩ := h
    exact ⟨rfl, Below.refl _ _⟩
theorem ref_write (base : Nat) (w : World) (p : Value) (M : DiskM) (F : Nat → Prop) (i : Int) (b : List (BitVec 8)) (h : RefAt base w p M F) (hb : b.length = 32) (hl : M.l.length ≤ few) : Calls Try.prog 14 #[p, .int .i64 i, .agg (bs b)] w (Acts RefAt base w p F (M.wRes i b).2 (.int .i64 (M.wRes i b).1)) := by
  obtain ⟨g, vs, vl, rfl, h, rfl⟩ := h
  refine (refwrite_any base w g vs vl M i b h hb hl).mono ?_
  intro e w' hp
  unfold WrotePost at hp
  unfold Acts DiskM.wRes
  by_cases hh : M.has i = true
  · rw [if_pos hh] at hp ⊢
    by_cases hs : M.stuck = true
    · rw [if_pos hs] at hp ⊢
      obtain ⟨rfl, h1, h2⟩ := hp
      exact ⟨rfl, _, ⟨g, vs, vl, rfl, h1, rfl⟩, h2.mono fun k hk => .inl (.inl hk), fun k hk => .inl hk⟩
    · rw [if_neg hs] at hp ⊢
      obtain ⟨rfl, vl', h1, h2, h3⟩ := hp
      refine ⟨rfl, _, ⟨g, vs, vl', rfl, h1, rfl⟩, h2.mono fun k hk => .inl (hk.imp id .inr), ?_⟩
      rintro k (rfl | hk | hk)
      · exact .inl (.inl rfl)
      · exact .inl (.inr (.inl hk))
      · exact (h3 k hk).imp (fun h => .inr (.inr h)) id
  · rw [if_neg hh] at hp ⊢
    obtain ⟨rfl, h1⟩ := hp
    exact ⟨rfl, _, ⟨g, vs, vl, rfl, h.below h1, rfl⟩, Chg.of_below h1, fun k hk => .inl hk⟩
theorem ref_read (base : Nat) (w : World) (p : Value) (M : DiskM) (F : Nat → Prop) (i : Int) (h : RefAt base w p M F) (hl : M.l.length ≤ few) : Calls Try.prog 16 #[p, .int .i64 i] w (Asks w (.tuple #[.agg (bs (M.rRes i).1), .int .i64 (M.rRes i).2])) := by
  obtain ⟨g, vs, vl, rfl, h, rfl⟩ := h
  refine (refread_any base w g vs vl M i h hl).mono ?_
  rintro e w' ⟨rfl, h1⟩
  refine ⟨?_, h1⟩
  unfold DiskM.rRes
  cases M.has i <;> cases M.down <;> rfl
theorem ref_flush (base : Nat) (w : World) (p : Value) (M : DiskM) (F : Nat → Prop) (h : RefAt base w p M F) (hl : M.l.length ≤ few) : Calls Try.prog 18 #[p] w (Acts RefAt base w p F M.fRes.2 (.int .i64 M.fRes.1)) := by
  obtain ⟨g, vs, vl, rfl, h, rfl⟩ := h
  refine (refflush_any base w g vs vl M h hl).mono ?_
  intro e w' hp
  unfold FlushPost at hp
  unfold Acts DiskM.fRes
  by_cases hs : M.stuck = true
  · rw [if_pos hs] at hp ⊢
    obtain ⟨rfl, h1, h2⟩ := hp
    exact ⟨rfl, _, ⟨g, vs, vl, rfl, h1, rfl⟩, h2.mono fun k hk => .inl (.inl hk), fun k hk => .inl hk⟩
  · rw [if_neg hs] at hp ⊢
    obtain ⟨rfl, h1, h2⟩ := hp
    refine ⟨rfl, _, ⟨g, vs, _, rfl, h1, rfl⟩, h2.mono fun k hk => .inl (hk.imp id .inl), ?_⟩
    rintro k (rfl | hk | hk)
    · exact .inl (.inl rfl)
    · exact .inl (.inr (.inl hk))
    · cases hk
theorem ref_up (base : Nat) (w : World) (p : Value) (M : DiskM) (F : Nat → Prop) (v : Value) (keep : List (BitVec 8)) (h : RefAt base w p M F) (hl : M.l.length ≤ few) (hv : Slice w v keep) (hkl : keep.length ≤ few) (hF : keep ≠ [] → ∀ k, v.ownBlock = some k → ¬ F k) : Calls Try.prog 20 #[p, v] w (Acts RefAt base w p F (M.upped keep) (.tuple #[])) := by
  obtain ⟨g, vs, vl, rfl, h, rfl⟩ := h
  refine (refup_any base w g vs vl M v keep h hl hv hkl ?_).mono ?_
  · rintro hne b o ⟨n, c, rfl⟩
    have := hF hne b rfl
    exact ⟨fun e => this (.inl e), fun e => this (.inr (.inl e))⟩
  · rintro e w' ⟨rfl, h1, h2⟩
    refine ⟨rfl, _, ⟨g, vs, _, rfl, h1, rfl⟩, h2.mono fun k hk => .inl (hk.imp id .inl), ?_⟩
    rintro k (rfl | hk | hk)
    · exact .inl (.inl rfl)
    · exact .inl (.inr (.inl hk))
    · cases hk
end Go.Proofs.Yteehpdeeaebliaa
