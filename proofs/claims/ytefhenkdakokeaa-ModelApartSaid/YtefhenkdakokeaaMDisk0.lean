/- Merged: DiskSpec Fill32. -/
import Derived.KernelRfl
import Derived.Test.YtefhenkdakokeaaMGen0
/- A disk as plain data: sectors, loose writes, a fuse, down or not; what each call makes of it. No program is named here. -/
set_option maxRecDepth 4000
namespace Go.Proofs.Ytefhenkdakokeaa
structure DiskM where
  s : List (List (BitVec 8))
  l : List (Nat × List (BitVec 8))
  f : Int
  down : Bool
namespace DiskM
def new (n : Nat) : DiskM := ⟨List.replicate n (blk 0#8), [], -1, false⟩
def has (M : DiskM) (i : Int) : Bool := decide (0 ≤ i) && decide (i < (M.s.length : Int))
/- one by one, in order -/
def put (s : List (List (BitVec 8))) (l : List (Nat × List (BitVec 8))) : List (List (BitVec 8)) := l.foldl (fun s x => s.set x.1 x.2) s
def kept (l : List (Nat × List (BitVec 8))) (keep : List (BitVec 8)) : List (Nat × List (BitVec 8)) := ((l.zip keep).filter fun x => x.2.getLsbD 0).map (·.1)
structure Ok (M : DiskM) : Prop where
  lo : 1 ≤ M.s.length
  hi : M.s.length ≤ 1024
  s : ∀ b ∈ M.s, b.length = 32
  l : ∀ x ∈ M.l, x.1 < M.s.length ∧ x.2.length = 32
  f : -9223372036854775808 ≤ M.f ∧ M.f < 9223372036854775808
end DiskM
namespace DiskM
theorem Ok.new {n : Nat} (h1 : 1 ≤ n) (h2 : n ≤ 1024) : Ok (DiskM.new n) :=
  ⟨by simpa [DiskM.new] using h1, by simpa [DiskM.new] using h2, fun b hb => by simp [DiskM.new] at hb; rw [hb.2]; exact length_blk _, fun x hx => by simp [DiskM.new] at hx, by simp [DiskM.new]⟩
end DiskM
end Go.Proofs.Ytefhenkdakokeaa

/- A block of one byte. -/
set_option maxRecDepth 4000
namespace Go.Proofs.Ytefhenkdakokeaa
open Go Go.RowKit
theorem fill_step (v : BitVec 8) (k : Nat) (hk : k < 32) : (List.replicate k v ++ List.replicate (32 - k) 0#8).set k v = List.replicate (k + 1) v ++ List.replicate (32 - (k + 1)) 0#8 := by
  rw [List.set_append_right _ _ (by simp), List.length_replicate, Nat.sub_self, show 32 - k = (32 - (k + 1)) + 1 by omega, List.replicate_succ, List.set_cons_zero, List.replicate_succ', List.append_assoc]
  rfl
def FillRel (w : World) (v : BitVec 8) (k : Nat) (wr : World) : Prop := Row wr (w.heap.size + 1) 32 (bs (List.replicate k v ++ List.replicate (32 - k) 0#8)) ∧ Row wr w.heap.size 32 (bs (blk 0#8)) ∧ Below w.heap.size w wr
set_option maxHeartbeats 800000 in
theorem fill_any (v : BitVec 8) (w : World) : Calls Try.prog 22 #[.int .u8 (bd v)] w fun e w' => e = .returned (.agg (bs (blk v))) ∧ Below w.heap.size w w' := by
  obtain ⟨D, hD⟩ : ∃ D, blk v = D := ⟨_, rfl⟩
  have HD := Lib.hid hD
  rw [hD]
  clear hD
  have hz := zeros_blk
  have hb2 : ∀ (o1 o2 : Obj), Below w.heap.size w ((w.alloc o1).alloc o2) := fun o1 o2 => ((Below.refl _ _).alloc (Nat.le_refl _) o1).alloc (by simp) o2
  go_enter Try.func22, Try.ntmps22
  go_wp2_with fail
  go_loopw [4] (fun i wr => ∃ k : Nat, k ≤ 32 ∧ i = .int .i64 k ∧ FillRel w v k wr) (fun i _ => 32 - (intOf i).toNat)
  case atStart => exact ⟨0, by omega, rfl, row2b _ _ _ _, (Row.fresh _ _ _).alloc _, hb2 _ _⟩
  case round =>
    obtain ⟨k, hk, rfl, rb, rz, hb⟩ := hrel
    clear hb2 hz
    by_cases hlt : k < 32
    · have hfs := fill_step v k hlt
      have hlen : (List.replicate k v ++ List.replicate (32 - k) 0#8).length = 32 := by simp; omega
      have c0 := rb.get (i := k) (get_bs _ k (by omega))
      have f0 := rb.free k
      have R2 := Lib.hid (rb.put k (.int .u8 (bd v)))
      have RZ := Lib.hid (rz.far (p := ⟨w.heap.size + 1, k, none⟩) (by simp) (.int .u8 (bd v)))
      have HB := Lib.hid (hb.setCell (p := ⟨w.heap.size + 1, k, none⟩) (by simp) (.int .u8 (bd v)))
      rw [set_bs, hfs] at R2
      have hk0 : (0 : Int) ≤ (k : Int) := by omega
      have hk1 : (k : Int) < 32 := by omega
      clear hfs hlen rb rz hb
      go_wp2_with fail
      exact ⟨⟨k + 1, by omega, by go_num, R2.out, RZ.out, HB.out⟩, by simp [intOf]; omega⟩
    · obtain rfl : k = 32 := by omega
      have e1 : (List.replicate 32 v ++ List.replicate (32 - 32) 0#8) = D := by rw [← HD.out]; simp [blk]
      rw [e1] at rb
      have H1 : Hid ((bs D).size = 32) := Lib.hid (by rw [size_bs, ← HD.out]; exact length_blk _)
      have H2 : Hid ((bs D).toList.length = 32) := Lib.hid (by rw [len_bs, ← HD.out]; exact length_blk _)
      have H0 : Hid ((bs (blk 0#8)).size = 32) := Lib.hid (by rw [size_bs]; exact length_blk _)
      have rbr := row_range rb (Below.refl wr.heap.size wr) rb.lt
      clear e1
      go_wp2_with (first | (refine wpList_load_mid rfl 32 _ rfl (w.heap.size + 1) 0 rfl (bs D).toList _ rbr Try.underlying32 rfl (by rw [H2.out]; exact size_blk) ?_) | (refine wpList_store_row rfl 32 _ _ rfl w.heap.size (bs D) rfl rfl 32 _ rz (by rw [H1.out]; exact size_blk) (by rw [H0.out, H1.out]) (one_bs _) ?_))
      exact bodyPost_ret (v := .agg (bs D)) (results_cell_row Try.results22 _ _ w.heap.size 32 (bs D) (0, 0) _ rfl (rz.setRow _) Try.underlying32 rfl (by rw [H1.out]; exact size_blk)) rfl ⟨rfl, below_setRow hb (Nat.le_refl _) _⟩
end Go.Proofs.Ytefhenkdakokeaa
