/- A disk as plain data: sectors, loose writes, a fuse, down or not; what each call makes of it. No program is named here. -/
import Derived.KernelRfl
namespace Go.Proofs.Yteehpdeeaebliaa
structure DiskM where
  s : List (List (BitVec 8))
  l : List (Nat × List (BitVec 8))
  f : Int
  down : Bool
def blk (x : BitVec 8) : List (BitVec 8) := List.replicate 32 x
namespace DiskM
def new (n : Nat) : DiskM := ⟨List.replicate n (blk 0#8), [], -1, false⟩
def has (M : DiskM) (i : Int) : Bool := decide (0 ≤ i) && decide (i < (M.s.length : Int))
/- one by one, in order -/
def put (s : List (List (BitVec 8))) (l : List (Nat × List (BitVec 8))) : List (List (BitVec 8)) := l.foldl (fun s x => s.set x.1 x.2) s
def stuck (M : DiskM) : Bool := M.down || M.f == 0
def burnt (M : DiskM) : DiskM := { M with f := if 0 < M.f then M.f - 1 else M.f }
def fell (M : DiskM) : DiskM := { M with down := true }
def wrote (M : DiskM) (i : Nat) (b : List (BitVec 8)) : DiskM := { M.burnt with l := M.l ++ [(i, b)] }
def flushed (M : DiskM) : DiskM := { M.burnt with s := put M.s M.l, l := [] }
def kept (l : List (Nat × List (BitVec 8))) (keep : List (BitVec 8)) : List (Nat × List (BitVec 8)) := ((l.zip keep).filter fun x => x.2.getLsbD 0).map (·.1)
def upped (M : DiskM) (keep : List (BitVec 8)) : DiskM := ⟨put M.s (kept M.l keep), [], -1, false⟩
def now (M : DiskM) (i : Nat) : List (BitVec 8) := (put M.s M.l).getD i []
structure Ok (M : DiskM) : Prop where
  lo : 1 ≤ M.s.length
  hi : M.s.length ≤ 1024
  s : ∀ b ∈ M.s, b.length = 32
  l : ∀ x ∈ M.l, x.1 < M.s.length ∧ x.2.length = 32
  f : -9223372036854775808 ≤ M.f ∧ M.f < 9223372036854775808
end DiskM
theorem length_blk (x : BitVec 8) : (blk x).length = 32 := by simp [blk]
namespace DiskM
theorem length_put (l : List (Nat × List (BitVec 8))) : ∀ s, (put s l).length = s.length := by
  induction l with
  | nil => exact fun s => rfl
  | cons x l ih => intro s; show (put (s.set x.1 x.2) l).length = _; rw [ih, List.length_set]
theorem put_append (s : List (List (BitVec 8))) (a b : List (Nat × List (BitVec 8))) : put s (a ++ b) = put (put s a) b := List.foldl_append
theorem put_snoc (s : List (List (BitVec 8))) (a : List (Nat × List (BitVec 8))) (x : Nat × List (BitVec 8)) : put s (a ++ [x]) = (put s a).set x.1 x.2 := by rw [put_append]; rfl
theorem put_len (l : List (Nat × List (BitVec 8))) : ∀ s : List (List (BitVec 8)), (∀ b ∈ s, b.length = 32) → (∀ x ∈ l, x.2.length = 32) → ∀ b ∈ put s l, b.length = 32 := by
  induction l with
  | nil => exact fun s h _ => h
  | cons x l ih =>
    intro s h hl
    refine ih _ (fun b hb => ?_) (fun y hy => hl y (by simp [hy]))
    rcases List.mem_or_eq_of_mem_set hb with h1 | h1
    · exact h b h1
    · rw [h1]; exact hl x (by simp)
theorem Ok.new {n : Nat} (h1 : 1 ≤ n) (h2 : n ≤ 1024) : Ok (DiskM.new n) :=
  ⟨by simpa [DiskM.new] using h1, by simpa [DiskM.new] using h2, fun b hb => by simp [DiskM.new] at hb; rw [hb.2]; exact length_blk _, fun x hx => by simp [DiskM.new] at hx, by simp [DiskM.new]⟩
theorem Ok.burnt {M : DiskM} (h : Ok M) : Ok M.burnt := ⟨h.lo, h.hi, h.s, h.l, by have := h.f; unfold DiskM.burnt; dsimp only; split <;> omega⟩
theorem Ok.fell {M : DiskM} (h : Ok M) : Ok M.fell := ⟨h.lo, h.hi, h.s, h.l, h.f⟩
theorem Ok.wrote {M : DiskM} (h : Ok M) {i : Nat} {b : List (BitVec 8)} (hi : i < M.s.length) (hb : b.length = 32) : Ok (M.wrote i b) :=
  ⟨h.lo, h.hi, h.s, fun x hx => by rcases List.mem_append.1 hx with h1 | h1; exact h.l x h1; rw [List.mem_singleton.1 h1]; exact ⟨hi, hb⟩, h.burnt.f⟩
theorem Ok.flushed {M : DiskM} (h : Ok M) : Ok M.flushed :=
  ⟨by show 1 ≤ (put M.s M.l).length; rw [length_put]; exact h.lo, by show (put M.s M.l).length ≤ 1024; rw [length_put]; exact h.hi, put_len _ _ h.s fun x hx => (h.l x hx).2, (fun x hx => by cases hx), h.burnt.f⟩
theorem kept_mem {l : List (Nat × List (BitVec 8))} {keep : List (BitVec 8)} {x : Nat × List (BitVec 8)} (h : x ∈ kept l keep) : x ∈ l := by
  unfold kept at h
  obtain ⟨y, hy, rfl⟩ := List.mem_map.1 h
  exact (List.of_mem_zip (List.mem_filter.1 hy).1).1
theorem Ok.upped {M : DiskM} (h : Ok M) (keep : List (BitVec 8)) : Ok (M.upped keep) :=
  ⟨by show 1 ≤ (put M.s _).length; rw [length_put]; exact h.lo, by show (put M.s _).length ≤ 1024; rw [length_put]; exact h.hi, put_len _ _ h.s fun x hx => (h.l x (kept_mem hx)).2, (fun x hx => by cases hx), by simp [DiskM.upped]⟩
end DiskM
end Go.Proofs.Yteehpdeeaebliaa
