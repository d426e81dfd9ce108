/- Merged: DiskSpec DiskRef Fill32 DiskRefW DiskRefF DiskRefU DiskRefR DiskRefN DiskIf DSt Pcs DiskPrg DiskPrgW DiskPrgF DiskPrgU DiskPrgR DiskPrgN. -/
import Derived.KernelRfl
import Derived.Test.YtcdcongeogmfkaaMGen0
/- A disk as plain data: sectors, loose writes, a fuse, down or not; what each call makes of it. No program is named here. -/
set_option maxRecDepth 4000
namespace Go.Proofs.Ytcdcongeogmfkaa
structure DiskM where
  s : List (List (BitVec 8))
  l : List (Nat × List (BitVec 8))
  f : Int
  down : Bool
namespace DiskM
def new (n : Nat) : DiskM := ⟨List.replicate n (blk 0#8), [], -1, false⟩
def has (M : DiskM) (i : Int) : Bool := decide (0 ≤ i) && decide (i < (M.s.length : Int))
/- one by one, in order -/
def put (s : List (List (BitVec 8))) (l : List (Nat × List (BitVec 8))) : List (List (BitVec 8)) := l.foldl (fun s x => s.set x.1 x.2) s
def stuck (M : DiskM) : Bool := M.down || M.f == 0
def burnt (M : DiskM) : DiskM := { M with f := if 0 < M.f then M.f - 1 else M.f }
def fell (M : DiskM) : DiskM := { M with down := true }
def wrote (M : DiskM) (i : Nat) (b : List (BitVec 8)) : DiskM := { M.burnt with l := M.l ++ [(i, b)] }
def flushed (M : DiskM) : DiskM := { M.burnt with s := put M.s M.l, l := [] }
def kept (l : List (Nat × List (BitVec 8))) (keep : List (BitVec 8)) : List (Nat × List (BitVec 8)) := ((l.zip keep).filter fun x => x.2.getLsbD 0).map (·.1)
def upped (M : DiskM) (keep : List (BitVec 8)) : DiskM := ⟨put M.s (kept M.l keep), [], -1, false⟩
def now (M : DiskM) (i : Nat) : List (BitVec 8) := (put M.s M.l).getD i []
structure Ok (M : DiskM) : Prop where
  lo : 1 ≤ M.s.length
  hi : M.s.length ≤ 1024
  s : ∀ b ∈ M.s, b.length = 32
  l : ∀ x ∈ M.l, x.1 < M.s.length ∧ x.2.length = 32
  f : -9223372036854775808 ≤ M.f ∧ M.f < 9223372036854775808
end DiskM
namespace DiskM
theorem length_put (l : List (Nat × List (BitVec 8))) : ∀ s, (put s l).length = s.length := by
  induction l with
  | nil => exact fun s => rfl
  | cons x l ih => intro s; show (put (s.set x.1 x.2) l).length = _; rw [ih, List.length_set]
theorem put_append (s : List (List (BitVec 8))) (a b : List (Nat × List (BitVec 8))) : put s (a ++ b) = put (put s a) b := List.foldl_append
theorem put_snoc (s : List (List (BitVec 8))) (a : List (Nat × List (BitVec 8))) (x : Nat × List (BitVec 8)) : put s (a ++ [x]) = (put s a).set x.1 x.2 := by rw [put_append]; rfl
theorem put_len (l : List (Nat × List (BitVec 8))) : ∀ s : List (List (BitVec 8)), (∀ b ∈ s, b.length = 32) → (∀ x ∈ l, x.2.length = 32) → ∀ b ∈ put s l, b.length = 32 := by
  induction l with
  | nil => exact fun s h _ => h
  | cons x l ih =>
    intro s h hl
    refine ih _ (fun b hb => ?_) (fun y hy => hl y (by simp [hy]))
    rcases List.mem_or_eq_of_mem_set hb with h1 | h1
    · exact h b h1
    · rw [h1]; exact hl x (by simp)
theorem Ok.new {n : Nat} (h1 : 1 ≤ n) (h2 : n ≤ 1024) : Ok (DiskM.new n) :=
  ⟨by simpa [DiskM.new] using h1, by simpa [DiskM.new] using h2, fun b hb => by simp [DiskM.new] at hb; rw [hb.2]; exact length_blk _, fun x hx => by simp [DiskM.new] at hx, by simp [DiskM.new]⟩
theorem Ok.burnt {M : DiskM} (h : Ok M) : Ok M.burnt := ⟨h.lo, h.hi, h.s, h.l, by have := h.f; unfold DiskM.burnt; dsimp only; split <;> omega⟩
theorem Ok.fell {M : DiskM} (h : Ok M) : Ok M.fell := ⟨h.lo, h.hi, h.s, h.l, h.f⟩
theorem Ok.wrote {M : DiskM} (h : Ok M) {i : Nat} {b : List (BitVec 8)} (hi : i < M.s.length) (hb : b.length = 32) : Ok (M.wrote i b) :=
  ⟨h.lo, h.hi, h.s, fun x hx => by rcases List.mem_append.1 hx with h1 | h1; exact h.l x h1; rw [List.mem_singleton.1 h1]; exact ⟨hi, hb⟩, h.burnt.f⟩
theorem Ok.flushed {M : DiskM} (h : Ok M) : Ok M.flushed :=
  ⟨by show 1 ≤ (put M.s M.l).length; rw [length_put]; exact h.lo, by show (put M.s M.l).length ≤ 1024; rw [length_put]; exact h.hi, put_len _ _ h.s fun x hx => (h.l x hx).2, (fun x hx => by cases hx), h.burnt.f⟩
theorem kept_mem {l : List (Nat × List (BitVec 8))} {keep : List (BitVec 8)} {x : Nat × List (BitVec 8)} (h : x ∈ kept l keep) : x ∈ l := by
  unfold kept at h
  obtain ⟨y, hy, rfl⟩ := List.mem_map.1 h
  exact (List.of_mem_zip (List.mem_filter.1 hy).1).1
theorem Ok.upped {M : DiskM} (h : Ok M) (keep : List (BitVec 8)) : Ok (M.upped keep) :=
  ⟨by show 1 ≤ (put M.s _).length; rw [length_put]; exact h.lo, by show (put M.s _).length ≤ 1024; rw [length_put]; exact h.hi, put_len _ _ h.s fun x hx => (h.l x (kept_mem hx)).2, (fun x hx => by cases hx), by simp [DiskM.upped]⟩
end DiskM
end Go.Proofs.Ytcdcongeogmfkaa

/- The document's own disk: what it is in memory, what each of its calls does to it. -/
set_option maxRecDepth 4000
namespace Go.Proofs.Ytcdcongeogmfkaa
open Go Go.RowKit
def wcell (x : Nat × List (BitVec 8)) : List Value := .int .i64 (x.1 : Int) :: bytesV x.2
structure RefD (base : Nat) (w : World) (g : Nat) (vs vl : Value) (M : DiskM) : Prop where
  hb : base ≤ g
  row : Row w g 61 #[vs, vl, .int .i64 M.f, .bool M.down]
  sec : w.ownsRow base 52 32 vs M.s.length (M.s.map bytesV).flatten
  loo : w.ownsRow base 95 33 vl M.l.length (M.l.map wcell).flatten
  ok : M.Ok
theorem RefD.next {base : Nat} {w w' : World} {g : Nat} {vs vl : Value} {M M' : DiskM} (h : RefD base w g vs vl M) (hs : M'.s = M.s) (hl : M'.l = M.l) (hok : M'.Ok) (r : Row w' g 61 #[vs, vl, .int .i64 M'.f, .bool M'.down]) (c : Chg (fun k => k = g) w w') : RefD base w' g vs vl M' :=
  ⟨h.hb, r, by rw [hs]; exact own_chg h.sec c (own_apart h.sec h.row (by decide)), by rw [hl]; exact own_chg h.loo c (own_apart h.loo h.row (by decide)), hok⟩
theorem RefD.keep {F : Nat → Prop} {base : Nat} {w w' : World} {g : Nat} {vs vl : Value} {M : DiskM} (h : RefD base w g vs vl M) (c : Chg F w w') (hg : ¬ F g) (hs : ∀ k, vs.ownBlock = some k → ¬ F k) (hl : ∀ k, vl.ownBlock = some k → ¬ F k) : RefD base w' g vs vl M :=
  ⟨h.hb, h.row.chg c hg, own_chg h.sec c hs, own_chg h.loo c hl, h.ok⟩
theorem RefD.below {base : Nat} {w w' : World} {g : Nat} {vs vl : Value} {M : DiskM} (h : RefD base w g vs vl M) (c : Below w.heap.size w w') : RefD base w' g vs vl M :=
  h.keep (F := fun _ => False) (Chg.of_below c) id (fun _ _ => id) (fun _ _ => id)
set_option maxHeartbeats 400000 in
theorem refhas_any (base : Nat) (w : World) (g : Nat) (vs vl : Value) (M : DiskM) (i : Int) (h : RefD base w g vs vl M) :
    Calls Try.prog 44 #[.pointer (some ⟨g, 0, none⟩), .int .i64 i] w fun e w' => e = .returned (.bool (M.has i)) ∧ w = w' := by
  have k0 := h.row.get (i := 0) rfl
  obtain ⟨A, c, rfl, _⟩ := own_slice_form h.sec
  have hh := h.ok.hi
  have HU : Hid (M.has i = (decide (0 ≤ i) && decide (i < (M.s.length : Int)))) := Lib.hid rfl
  generalize M.has i = t at *
  generalize M.s.length = n at *
  clear h
  go_enter Try.func44, Try.ntmps44
  go_wp2_with fail
  · have h0 : 0 ≤ i := by assumption
    go_ret
    rw [HU.out, decide_eq_true h0, Bool.true_and]
    exact ⟨rfl, rfl⟩
  · have h0 : i < 0 := by assumption
    go_ret
    rw [HU.out, decide_eq_false (by omega), Bool.false_and]
    exact ⟨rfl, rfl⟩
def ThruPost (w : World) (g : Nat) (vs vl : Value) (b : Bool) (f : Int) (down : Bool) : Ending → World → Prop := fun e w' => e = .returned (.bool b) ∧ Row w' g 61 #[vs, vl, .int .i64 f, .bool down] ∧ Chg (fun k => k = g) w w'
set_option maxHeartbeats 400000 in
theorem refthru_raw (w : World) (g : Nat) (vs vl : Value) (f : Int) (down : Bool) (h : Row w g 61 #[vs, vl, .int .i64 f, .bool down]) (hf : -9223372036854775808 ≤ f ∧ f < 9223372036854775808) :
    Calls Try.prog 45 #[.pointer (some ⟨g, 0, none⟩)] w (ThruPost w g vs vl (!(down || f == 0)) (if down || f == 0 then f else if 0 < f then f - 1 else f) (down || f == 0)) := by
  have k2 : w.cell? ⟨g, 2, none⟩ = some (.int .i64 f) := h.get rfl
  have k3 : w.cell? ⟨g, 3, none⟩ = some (.bool down) := h.get rfl
  have f2 := h.free 2
  have f3 := h.free 3
  have R := Lib.hid h
  clear h
  have hset3 : ∀ u : Value, #[vs, vl, Value.int .i64 f, .bool down].setIfInBounds 3 u = #[vs, vl, Value.int .i64 f, u] := fun _ => rfl
  have hset2 : ∀ u : Value, #[vs, vl, Value.int .i64 f, .bool down].setIfInBounds 2 u = #[vs, vl, u, .bool down] := fun _ => rfl
  have T3 : Hid (∀ K : World → Prop, K (w.setCell ⟨g, 3, none⟩ (.bool true)) → K (w.setCell ⟨g, 3, none⟩ (.bool true))) := Lib.hid fun _ h => h
  have R3 : Hid (Row (w.setCell ⟨g, 3, none⟩ (.bool true)) g 61 #[vs, vl, .int .i64 f, .bool true]) := Lib.hid (R.out.put 3 (.bool true))
  have R2 : Hid (Row (w.setCell ⟨g, 2, none⟩ (.int .i64 (f - 1))) g 61 #[vs, vl, .int .i64 (f - 1), .bool down]) := Lib.hid (R.out.put 2 (.int .i64 (f - 1)))
  have C3 : Hid (Chg (fun k => k = g) w (w.setCell ⟨g, 3, none⟩ (.bool true))) := Lib.hid (Chg.one w g 3 _)
  have C2 : Hid (Chg (fun k => k = g) w (w.setCell ⟨g, 2, none⟩ (.int .i64 (f - 1)))) := Lib.hid (Chg.one w g 2 _)
  clear hset3 hset2 T3
  cases down with
  | true =>
    have e : ∀ x : Bool, (true || x) = true := fun _ => rfl
    rw [e, if_pos rfl]
    clear e
    go_enter Try.func45, Try.ntmps45
    go_wp2_with fail
    go_ret
    exact ⟨rfl, R3.out, C3.out⟩
  | false =>
    rw [Bool.false_or]
    by_cases h0 : f = 0
    · subst h0
      rw [show ((0 : Int) == 0) = true from rfl, if_pos rfl]
      go_enter Try.func45, Try.ntmps45
      go_wp2_with fail
      go_ret
      exact ⟨rfl, R3.out, C3.out⟩
    · have hz : (f == 0) = false := beq_eq_false_iff_ne.2 h0
      have e1 : (if (f == 0) = true then f else if 0 < f then f - 1 else f) = if 0 < f then f - 1 else f := by rw [hz]; rfl
      rw [e1, hz]
      clear e1 h0
      by_cases hp : 0 < f
      · rw [if_pos hp]
        have hd : decide (0 < f) = true := decide_eq_true hp
        go_enter Try.func45, Try.ntmps45
        go_wp2_with fail
        go_ret
        exact ⟨rfl, R2.out, C2.out⟩
      · rw [if_neg hp]
        have hd : decide (0 < f) = false := decide_eq_false hp
        go_enter Try.func45, Try.ntmps45
        go_wp2_with fail
        go_ret
        exact ⟨rfl, R.out, Chg.refl _ _⟩
end Go.Proofs.Ytcdcongeogmfkaa

/- A block of one byte. -/
set_option maxRecDepth 4000
namespace Go.Proofs.Ytcdcongeogmfkaa
open Go Go.RowKit
theorem fill_step (v : BitVec 8) (k : Nat) (hk : k < 32) : (List.replicate k v ++ List.replicate (32 - k) 0#8).set k v = List.replicate (k + 1) v ++ List.replicate (32 - (k + 1)) 0#8 := by
  rw [List.set_append_right _ _ (by simp), List.length_replicate, Nat.sub_self, show 32 - k = (32 - (k + 1)) + 1 by omega, List.replicate_succ, List.set_cons_zero, List.replicate_succ', List.append_assoc]
  rfl
def FillRel (w : World) (v : BitVec 8) (k : Nat) (wr : World) : Prop := Row wr (w.heap.size + 1) 52 (bs (List.replicate k v ++ List.replicate (32 - k) 0#8)) ∧ Row wr w.heap.size 52 (bs (blk 0#8)) ∧ Below w.heap.size w wr
set_option maxHeartbeats 800000 in
theorem fill_any (v : BitVec 8) (w : World) : Calls Try.prog 27 #[.int .u8 (bd v)] w fun e w' => e = .returned (.agg (bs (blk v))) ∧ Below w.heap.size w w' := by
  obtain ⟨D, hD⟩ : ∃ D, blk v = D := ⟨_, rfl⟩
  have HD := Lib.hid hD
  rw [hD]
  clear hD
  have hz := zeros_blk
  have hb2 : ∀ (o1 o2 : Obj), Below w.heap.size w ((w.alloc o1).alloc o2) := fun o1 o2 => ((Below.refl _ _).alloc (Nat.le_refl _) o1).alloc (by simp) o2
  go_enter Try.func27, Try.ntmps27
  go_wp2_with fail
  go_loopw [4] (fun i wr => ∃ k : Nat, k ≤ 32 ∧ i = .int .i64 k ∧ FillRel w v k wr) (fun i _ => 32 - (intOf i).toNat)
  case atStart => exact ⟨0, by omega, rfl, row2b _ _ _ _, (Row.fresh _ _ _).alloc _, hb2 _ _⟩
  case round =>
    obtain ⟨k, hk, rfl, rb, rz, hb⟩ := hrel
    clear hb2 hz
    by_cases hlt : k < 32
    · have hfs := fill_step v k hlt
      have hlen : (List.replicate k v ++ List.replicate (32 - k) 0#8).length = 32 := by simp; omega
      have c0 := rb.get (i := k) (get_bs _ k (by omega))
      have f0 := rb.free k
      have R2 := Lib.hid (rb.put k (.int .u8 (bd v)))
      have RZ := Lib.hid (rz.far (p := ⟨w.heap.size + 1, k, none⟩) (by simp) (.int .u8 (bd v)))
      have HB := Lib.hid (hb.setCell (p := ⟨w.heap.size + 1, k, none⟩) (by simp) (.int .u8 (bd v)))
      rw [set_bs, hfs] at R2
      have hk0 : (0 : Int) ≤ (k : Int) := by omega
      have hk1 : (k : Int) < 32 := by omega
      clear hfs hlen rb rz hb
      go_wp2_with fail
      exact ⟨⟨k + 1, by omega, by go_num, R2.out, RZ.out, HB.out⟩, by simp [intOf]; omega⟩
    · obtain rfl : k = 32 := by omega
      have e1 : (List.replicate 32 v ++ List.replicate (32 - 32) 0#8) = D := by rw [← HD.out]; simp [blk]
      rw [e1] at rb
      have H1 : Hid ((bs D).size = 32) := Lib.hid (by rw [size_bs, ← HD.out]; exact length_blk _)
      have H2 : Hid ((bs D).toList.length = 32) := Lib.hid (by rw [len_bs, ← HD.out]; exact length_blk _)
      have H0 : Hid ((bs (blk 0#8)).size = 32) := Lib.hid (by rw [size_bs]; exact length_blk _)
      have rbr := row_range rb (Below.refl wr.heap.size wr) rb.lt
      clear e1
      go_wp2_with (first | (refine wpList_load_mid rfl 52 _ rfl (w.heap.size + 1) 0 rfl (bs D).toList _ rbr Try.underlying52 rfl (by rw [H2.out]; exact size_blk) ?_) | (refine wpList_store_row rfl 52 _ _ rfl w.heap.size (bs D) rfl rfl 52 _ rz (by rw [H1.out]; exact size_blk) (by rw [H0.out, H1.out]) (one_bs _) ?_))
      exact bodyPost_ret (v := .agg (bs D)) (results_cell_row Try.results27 _ _ w.heap.size 52 (bs D) (0, 0) _ rfl (rz.setRow _) Try.underlying52 rfl (by rw [H1.out]; exact size_blk)) rfl ⟨rfl, below_setRow hb (Nat.le_refl _) _⟩
end Go.Proofs.Ytcdcongeogmfkaa

/- The document's Write. -/
set_option maxRecDepth 4000
namespace Go.Proofs.Ytcdcongeogmfkaa
open Go Go.RowKit
theorem info_write : (Try.prog.info? 95).map (fun i => (i.zero, i.size, i.bytes)) = some (some (.agg (wcell (0, List.replicate 32 0#8)).toArray), 33, 40) := by kernel_rfl
theorem info_write2 : (Try.prog.info? 95).map (fun i => (i.zero, i.size)) = some (some (.agg (wcell (0, List.replicate 32 0#8)).toArray), 33) := by kernel_rfl
theorem places_write : placesOf Try.prog 95 = some (33, [(0, 1), (1, 32)]) := by kernel_rfl
/- a slice of one element that was just made -/
def elit (t : TypeId) (cs : List Value) : Value → World → Prop := fun v w => ∃ (g : Nat) (fr : Nat × Nat), v = .slice (some ⟨g, 0, none⟩) 1 1 ∧ w.heap[g]? = some (.cells cs.toArray t fr)
theorem elit_stays {t : TypeId} {cs : List Value} {v : Value} {w w' : World} (h : elit t cs v w) (k : Same w w') : elit t cs v w' := by
  obtain ⟨g, fr, rfl, hg⟩ := h
  exact ⟨g, fr, rfl, (k.block g (lt_of_heap hg)).trans hg⟩
theorem elit_new (w : World) (t : TypeId) (cs : List Value) : elit t cs (.slice (some ⟨w.heap.size, 0, none⟩) 1 1) (w.alloc (.cells cs.toArray t)) := ⟨_, _, rfl, heap_alloc_new w _⟩
theorem length_wcell (x : Nat × List (BitVec 8)) (h : x.2.length = 32) : (wcell x).length = 1 * 33 := by simp [wcell, bytesV, h]
theorem one_wcell (x : Nat × List (BitVec 8)) : ∀ u ∈ wcell x, u.oneCell' = true := by
  intro u hu
  rcases List.mem_cons.1 hu with rfl | hu
  · rfl
  · exact one_bytesV _ u hu
theorem wcell_eq (n : Nat) (b : List (BitVec 8)) : Value.agg ([Value.int .i64 (n : Int), .agg (bs b)].flatMap fun v => v.cells.toList).toArray = .agg (wcell (n, b)).toArray := by
  simp [wcell, bs, bytesV, Value.cells]
theorem f0_stays {base g n0 : Nat} {vs vl : Value} {M : DiskM} {b : List (BitVec 8)} {w W W' : World} (h : RefD base W g vs vl M ∧ Row W n0 52 (bs b) ∧ n0 < W.heap.size ∧ Chg (fun k => k = g) w W) (k : Same W W') : RefD base W' g vs vl M ∧ Row W' n0 52 (bs b) ∧ n0 < W'.heap.size ∧ Chg (fun k => k = g) w W' :=
  ⟨h.1.below k, h.2.1.call k, Nat.lt_of_lt_of_le h.2.2.1 k.size, h.2.2.2.trans (Chg.of_below (F := fun _ => False) k) fun _ h => h.elim⟩
/- behind the append, ahead of the store -/
structure GrewD (base : Nat) (w W : World) (g : Nat) (vs vl v3 : Value) (n : Nat) (b : List (BitVec 8)) (M : DiskM) : Prop where
  hb : base ≤ g
  row : Row W g 61 #[vs, vl, .int .i64 M.burnt.f, .bool M.burnt.down]
  sec : W.ownsRow base 52 32 vs M.s.length (M.s.map bytesV).flatten
  loo : W.ownsRow base 95 33 v3 (M.wrote n b).l.length ((M.wrote n b).l.map wcell).flatten
  ok : M.burnt.Ok
  chg : Chg (fun k => k = g ∨ vl.ownBlock = some k) w W
  grow : ∀ k, v3.ownBlock = some k → vl.ownBlock = some k ∨ w.heap.size ≤ k
theorem GrewD.k1 {base : Nat} {w W : World} {g : Nat} {vs vl v3 : Value} {n : Nat} {b : List (BitVec 8)} {M : DiskM} (h : GrewD base w W g vs vl v3 n b M) : W.cell? ⟨g, 1, none⟩ = some vl := h.row.get rfl
theorem GrewD.f1 {base : Nat} {w W : World} {g : Nat} {vs vl v3 : Value} {n : Nat} {b : List (BitVec 8)} {M : DiskM} (h : GrewD base w W g vs vl v3 n b M) : W.frozen? ⟨g, 1, none⟩ = false := h.row.free 1
theorem grewD_stays {base : Nat} {w W W' : World} {g : Nat} {vs vl v3 : Value} {n : Nat} {b : List (BitVec 8)} {M : DiskM} (h : GrewD base w W g vs vl v3 n b M) (k : Same W W') : GrewD base w W' g vs vl v3 n b M :=
  ⟨h.hb, h.row.call k, owns_call h.sec k, owns_call h.loo k, h.ok, h.chg.trans (Chg.of_below (F := fun _ => False) k) (fun _ h => h.elim), h.grow⟩
theorem grewD_intro {base : Nat} {w W w3 : World} {g n : Nat} {vs vl v3 : Value} {M : DiskM} {b : List (BitVec 8)} (h : RefD base W g vs vl M.burnt) (own : w3.ownsRow base 95 33 v3 (M.burnt.l.length + 1) ((M.burnt.l.map wcell).flatten ++ wcell (n, b))) (hg : W.grownBy w3 vl.ownBlock) (hw : Where W vl v3) (c : Chg (fun k => k = g) w W) : GrewD base w w3 g vs vl v3 n b M := by
  have hap := own_apart h.loo h.row (by decide)
  have hap2 := own_apart2 h.sec h.loo (by decide)
  refine ⟨h.hb, (hg.block g h.row.lt (fun e => hap g e.symm rfl)).trans h.row, h.sec.kept hg (by
    cases hv : vs.ownBlock with
    | none => exact .inl rfl
    | some k => exact .inr fun e => hap2 k hv e.symm), ?_, h.ok, (c.mono (fun k h => .inl (.inl h))).grown hg (fun k h => .inl (.inr h)), fun k hk => (hw.cases hk).imp id (Nat.le_trans c.size)⟩
  have e : ((M.wrote n b).l.map wcell).flatten = (M.burnt.l.map wcell).flatten ++ wcell (n, b) := by simp [DiskM.wrote, DiskM.burnt]
  have e2 : (M.wrote n b).l.length = M.burnt.l.length + 1 := by simp [DiskM.wrote, DiskM.burnt]
  rw [e, e2]
  exact own
def WroteD (base : Nat) (w W : World) (g : Nat) (vs vl : Value) (n : Nat) (b : List (BitVec 8)) (M : DiskM) : Prop :=
  ∃ v3, RefD base W g vs v3 (M.wrote n b) ∧ Chg (fun k => k = g ∨ vl.ownBlock = some k) w W ∧ ∀ k, v3.ownBlock = some k → vl.ownBlock = some k ∨ w.heap.size ≤ k
theorem wroteD_stays {base : Nat} {w W W' : World} {g : Nat} {vs vl : Value} {n : Nat} {b : List (BitVec 8)} {M : DiskM} (h : WroteD base w W g vs vl n b M) (k : Same W W') : WroteD base w W' g vs vl n b M := by
  obtain ⟨v3, h1, h2, h3⟩ := h
  exact ⟨v3, h1.below k, h2.trans (Chg.of_below (F := fun _ => False) k) (fun _ h => h.elim), h3⟩
theorem GrewD.wrote {base : Nat} {w W : World} {g : Nat} {vs vl v3 : Value} {n : Nat} {b : List (BitVec 8)} {M : DiskM} (h : GrewD base w W g vs vl v3 n b M) (hn : n < M.s.length) (hb : b.length = 32) : WroteD base w (W.setCell ⟨g, 1, none⟩ v3) g vs vl n b M := by
  have c := Chg.one W g 1 v3
  refine ⟨v3, ⟨h.hb, h.row.put 1 v3, own_chg h.sec c (own_apart h.sec h.row (by decide)), own_chg h.loo c (own_apart h.loo h.row (by decide)), ⟨h.ok.lo, h.ok.hi, h.ok.s, fun x hx => ?_, h.ok.f⟩⟩, h.chg.setCell (p := ⟨g, 1, none⟩) (.inl (.inl rfl)) v3, h.grow⟩
  rcases List.mem_append.1 hx with h1 | h1
  · exact h.ok.l x h1
  · rw [List.mem_singleton.1 h1]; exact ⟨hn, hb⟩
def WrotePost (base : Nat) (w : World) (g : Nat) (vs vl : Value) (M : DiskM) (i : Int) (b : List (BitVec 8)) : Ending → World → Prop := fun e w' =>
  if M.has i then
    if M.stuck then e = .returned (.int .i64 20) ∧ RefD base w' g vs vl M.fell ∧ Chg (fun k => k = g) w w'
    else e = .returned (.int .i64 0) ∧ ∃ vl', RefD base w' g vs vl' (M.wrote i.toNat b) ∧ Chg (fun k => k = g ∨ vl.ownBlock = some k) w w' ∧ ∀ k, vl'.ownBlock = some k → vl.ownBlock = some k ∨ w.heap.size ≤ k
  else e = .returned (.int .i64 1) ∧ Below w.heap.size w w'
set_option maxRecDepth 20000 in
set_option maxHeartbeats 800000 in
theorem refwrite_any (base : Nat) (w : World) (g : Nat) (vs vl : Value) (M : DiskM) (i : Int) (b : List (BitVec 8)) (h : RefD base w g vs vl M) (hb : b.length = 32) (hl : M.l.length ≤ 1000000000) :
    Calls Try.prog 22 #[.pointer (some ⟨g, 0, none⟩), .int .i64 i, .agg (bs b)] w (WrotePost base w g vs vl M i b) := by
  have hb1 := (Below.refl w.heap.size w).alloc (Nat.le_refl _) (.cells (bs b) 52)
  have H1 := Lib.hid (h.below hb1)
  by_cases hh : M.has i = true
  · by_cases hs : M.stuck = true
    · have e0 : WrotePost base w g vs vl M i b = fun e w' => e = .returned (.int .i64 20) ∧ RefD base w' g vs vl M.fell ∧ Chg (fun k => k = g) w w' := by
        funext e w'; unfold WrotePost; rw [if_pos hh, if_pos hs]
      rw [e0]
      have C1 := refhas_any base _ g vs vl M i H1.out
      have C2 := refthru_raw _ g vs vl M.f M.down H1.out.row H1.out.ok.f
      rw [show (M.down || M.f == 0) = true from hs] at C2
      rw [hh] at C1
      go_enter Try.func22, Try.ntmps22
      go_wp2_with fail
      refine C1.mono ?_
      rintro e w1 ⟨rfl, rfl⟩
      go_wp2_with fail
      refine C2.mono ?_
      rintro e w2 ⟨rfl, r2, c2⟩
      have H2 := Lib.hid (H1.out.next (M' := M.fell) rfl rfl H1.out.ok.fell r2 c2)
      have HC := Lib.hid ((Chg.of_below (F := fun k => k = g) hb1).trans c2 fun k hk => .inl hk)
      clear C1 C2 r2 c2
      go_wp2_with fail
      go_ret
      exact ⟨rfl, H2.out, HC.out⟩
    · have hs' : M.stuck = false := by simpa using hs
      have e0 : WrotePost base w g vs vl M i b = fun e w' => e = .returned (.int .i64 0) ∧ ∃ vl', RefD base w' g vs vl' (M.wrote i.toNat b) ∧ Chg (fun k => k = g ∨ vl.ownBlock = some k) w w' ∧ ∀ k, vl'.ownBlock = some k → vl.ownBlock = some k ∨ w.heap.size ≤ k := by
        funext e w'; unfold WrotePost; rw [if_pos hh, if_neg hs]
      rw [e0]
      have C1 := refhas_any base _ g vs vl M i H1.out
      have C2 := refthru_raw _ g vs vl M.f M.down H1.out.row H1.out.ok.f
      rw [show (M.down || M.f == 0) = false from hs'] at C2
      rw [hh] at C1
      obtain ⟨n, rfl, hn⟩ : ∃ n : Nat, i = (n : Int) ∧ n < M.s.length := by
        unfold DiskM.has at hh
        simp only [Bool.and_eq_true, decide_eq_true_eq] at hh
        exact ⟨i.toNat, by omega, by omega⟩
      have HB := Lib.hid hb
      have HDN : Hid (M.down = false) := Lib.hid (by unfold DiskM.stuck at hs'; exact (Bool.or_eq_false_iff.1 hs').1)
      clear e0 hh hs hs'
      go_enter Try.func22, Try.ntmps22
      go_wp2_with fail
      refine C1.mono ?_
      rintro e w1 ⟨rfl, rfl⟩
      go_wp2_with fail
      refine C2.mono ?_
      rintro e w2 ⟨rfl, r2, c2⟩
      have r2' : Row w2 g 61 #[vs, vl, .int .i64 M.burnt.f, .bool M.burnt.down] := by rw [show M.burnt.down = false from HDN.out]; exact r2
      have H2 := Lib.hid (H1.out.next (M' := M.burnt) rfl rfl H1.out.ok.burnt r2' c2)
      have HC := Lib.hid ((Chg.of_below (F := fun k => k = g) hb1).trans c2 fun k hk => .inl hk)
      have RB := Lib.hid ((Row.fresh w 52 (bs b)).chg c2 (by have := h.row.lt; omega))
      clear C1 C2 r2 r2' c2 h hb H1
      go_wp2_with fail
      have hF0 : Wl [fun W => RefD base W g vs vl M.burnt ∧ Row W w.heap.size 52 (bs b) ∧ w.heap.size < W.heap.size ∧ Chg (fun k => k = g) w W, fun _ => True, fun W => WroteD base w W g vs vl n b M] 0 w2.drew := ⟨H2.out.below (Below.refl _ _).drew, RB.out, RB.out.lt, HC.out.drew⟩
      refine wp_region_phs [is (.pointer (some ⟨g, 0, none⟩)), is (.pointer (some ⟨g, 0, none⟩)), is (.pointer (some ⟨g, 0, none⟩)), is (.pointer (some ⟨g, 1, none⟩)), is (vl), is (.int .i64 (n : Int)), is (.agg (bs b)), is (.agg (wcell (n, b)).toArray), (elit 95 (wcell (n, b))), (fun v W => GrewD base w W g vs vl v n b M), is (.pointer (some ⟨g, 0, none⟩)), is (.pointer (some ⟨g, 1, none⟩)), anyV] [true, true, true, true, true, true, true, true, false, false, true, true, true] [(fun W => RefD base W g vs vl M.burnt ∧ Row W w.heap.size 52 (bs b) ∧ w.heap.size < W.heap.size ∧ Chg (fun k => k = g) w W), (fun _ => True), (fun W => WroteD base w W g vs vl n b M)] [false, false, false, false, false, false, false, false, false, true, false, false, true] [none, some 0, some 0, some 0, some 0, some 0, some 0, some 0, some 0, some 0, some 1, some 1, some 1] [some 14, some 15, some 16, some 17, some 18, some 19, some 20, some 21, some 22, some 23, some 24, some 25, none] 13 2 (fun _ => true) rfl rfl (by kernel_rfl) (by kernel_rfl) (by kernel_rfl) (by kernel_rfl) ?_ ?_ ?_ ?_ ?_ ?_
      · repeat first | exact wok_nil | refine wok_cons (by first | exact fun _ _ h k => f0_stays h k | exact fun _ _ h _ => h | exact fun _ _ h k => wroteD_stays h k) ?_
      · repeat first | exact vok_nil | refine vok_rig (by first | exact fun _ _ _ h => h) ?_ | refine vok_soft (by first | exact fun _ _ _ h _ => h | exact fun _ _ _ h k => elit_stays h k | exact fun _ _ _ h k => grewD_stays h k) ?_
      · exact hF0
      · repeat first | exact all_end (by decide) | refine all_cons (by first | exact rfl | exact ⟨rfl, fun _ _ h => Or.inl h⟩ | exact ⟨rfl, fun _ _ h => Or.inr ⟨h, rfl⟩⟩) ?_
      · refine allp_pure rfl rfl (fun a x W hout hin => ?_) ?_
        · have e0 : a.tmps[0]? = some (.pointer (some ⟨g, 0, none⟩)) := (hout 0 (by kernel_rfl)).trans rfl
          exact does_move rfl e0 ⟨rfl, rfl⟩
        refine allp_mild 0 rfl rfl rfl (fun a x W hout hin hP => ?_) ?_
        · have e0 : a.tmps[0]? = some (.pointer (some ⟨g, 0, none⟩)) := (hout 0 (by kernel_rfl)).trans rfl
          exact does_move rfl e0 ⟨Same.refl _, rfl⟩
        refine allp_mild 0 rfl rfl rfl (fun a x W hout hin hP => ?_) ?_
        · have e15 := hin.is 1 15 (by kernel_rfl) (by decide) (by kernel_rfl) (by kernel_rfl) _ rfl
          clear hin hout
          intro K Q hK
          go_simp
          exact hK _ _ ⟨Same.refl _, rfl⟩
        refine allp_mild 0 rfl rfl rfl (fun a x W hout hin hP => ?_) ?_
        · have e16 := hin.is 2 16 (by kernel_rfl) (by decide) (by kernel_rfl) (by kernel_rfl) _ rfl
          clear hin hout
          intro K Q hK
          go_simp
          exact hK _ _ ⟨Same.refl _, rfl⟩
        refine allp_mild 0 rfl rfl rfl (fun a x W hout hin hP => ?_) ?_
        · have e17 := hin.is 3 17 (by kernel_rfl) (by decide) (by kernel_rfl) (by kernel_rfl) _ rfl
          have hc : W.cell? ⟨g, 1, none⟩ = some vl := hP.1.row.get rfl
          clear hP
          clear hin hout
          intro K Q hK
          go_simp
          exact hK _ _ ⟨Same.refl _, rfl⟩
        refine allp_mild 0 rfl rfl rfl (fun a x W hout hin hP => ?_) ?_
        · have e1 : a.tmps[1]? = some (.int .i64 (n : Int)) := (hout 1 (by kernel_rfl)).trans rfl
          exact does_move rfl e1 ⟨Same.refl _, rfl⟩
        refine allp_mild 0 rfl rfl rfl (fun a x W hout hin hP => ?_) ?_
        · have e5 : a.tmps[5]? = some (.pointer (some ⟨w.heap.size, 0, none⟩)) := (hout 5 (by kernel_rfl)).trans rfl
          clear hin hout
          intro K Q hK
          refine wp_load_mid 52 (.tmp 5) rfl w.heap.size 0 (eval_of_get e5) (bs b).toList _ (row_range hP.2.1 (Below.refl W.heap.size W) hP.2.1.lt) Try.underlying52 rfl (by rw [len_bs, HB.out]; exact size_blk) ?_
          exact hK _ _ ⟨Same.refl _, by simp [Vs, is]⟩
        refine allp_mild 0 rfl rfl rfl (fun a x W hout hin hP => ?_) ?_
        · have e19 := hin.is 5 19 (by kernel_rfl) (by decide) (by kernel_rfl) (by kernel_rfl) _ rfl
          have e20 := hin.is 6 20 (by kernel_rfl) (by decide) (by kernel_rfl) (by kernel_rfl) _ rfl
          clear hin hout
          intro K Q hK
          refine wp_buildStruct 95 _ rfl places_write [.int .i64 (n : Int), .agg (bs b)] ?_ (by rw [show ([Value.int .i64 (n : Int), .agg (bs b)].map (·.cells.size)) = [1, 32] by simp [Value.cells, size_bs, HB.out]]; rfl) (by simp [Value.cells, size_bs, HB.out]) ?_
          · simp only [List.map_toArray, List.map_cons, List.map_nil, eval_of_get e19, eval_of_get e20]; rfl
          · exact hK _ _ ⟨Same.refl _, wcell_eq n b⟩
        refine allp_mild 0 rfl rfl rfl (fun a x W hout hin hP => ?_) ?_
        · have e21 := hin.is 7 21 (by kernel_rfl) (by decide) (by kernel_rfl) (by kernel_rfl) _ rfl
          clear hin hout hP
          intro K Q hK
          refine wp_buildOne 59 95 (.tmp 21) rfl (wcell (n, b)).toArray _ 33 (eval_of_get e21) Try.underlying59 info_write2 (by rw [List.size_toArray, length_wcell _ HB.out]) (by decide) (by decide) ?_
          exact hK _ _ ⟨Same.alloc _ _, elit_new W _ _⟩
        refine allp_wild 0 rfl rfl rfl (fun a x W hout hin hP => ?_) ?_
        · have e18 := hin.is 4 18 (by kernel_rfl) (by decide) (by kernel_rfl) (by kernel_rfl) _ rfl
          obtain ⟨v22, e22, hv22⟩ := hin.get 8 22 (by kernel_rfl) (by decide) (by kernel_rfl) (.inr ⟨rfl, by kernel_rfl⟩)
          clear hout
          intro K Q hK
          obtain ⟨g8, fr8, rfl, hg8⟩ := hv22
          obtain ⟨H3, _, _, HC⟩ := hP
          refine wp_append_where (.tmp 18) (.tmp 22) 59 rfl base 95 33 40 _ Try.underlying59 info_write rfl (by decide) vl _ _ (eval_of_get e18) H3.loo ⟨g8, 0, none⟩ 1 1 (wcell (n, b)) (eval_of_get e22) (by rw [length_wcell _ HB.out]) (fun j u hu => by rw [Addr.add_mid, Nat.zero_add, cell_of_row W g8 j _ _ _ hg8]; simpa using hu) (one_wcell _) (by simp only [DiskM.burnt]; unfold maxLen; omega) (by simp only [DiskM.burnt]; omega) (Nat.le_trans H3.hb (Nat.le_of_lt H3.row.lt)) ?_
          intro v3 w3 own3 hg3 hw3
          exact hK _ _ ⟨trivial, grewD_intro H3 own3 hg3 hw3 HC⟩
        refine allp_mild 1 rfl rfl rfl (fun a x W hout hin hP => ?_) ?_
        · have e14 := hin.is 0 14 (by kernel_rfl) (by decide) (by kernel_rfl) (by kernel_rfl) _ rfl
          clear hin hout
          intro K Q hK
          go_simp
          exact hK _ _ ⟨Same.refl _, rfl⟩
        refine allp_mild 1 rfl rfl rfl (fun a x W hout hin hP => ?_) ?_
        · have e24 := hin.is 10 24 (by kernel_rfl) (by decide) (by kernel_rfl) (by kernel_rfl) _ rfl
          clear hin hout
          intro K Q hK
          go_simp
          exact hK _ _ ⟨Same.refl _, rfl⟩
        refine allp_wild 1 rfl rfl rfl (fun a x W hout hin hP => ?_) ?_
        · have e25 := hin.is 11 25 (by kernel_rfl) (by decide) (by kernel_rfl) (by kernel_rfl) _ rfl
          obtain ⟨v23, e23, hv23⟩ := hin.get 9 23 (by kernel_rfl) (by decide) (by kernel_rfl) (.inr ⟨rfl, by kernel_rfl⟩)
          obtain ⟨A3, c3, rfl, _⟩ := own_slice_form hv23.loo
          have k1 := hv23.k1
          have f1 := hv23.f1
          have HW := Lib.hid (hv23.wrote hn HB.out)
          clear hv23
          clear hin hout
          intro K Q hK
          go_simp
          exact hK undef _ ⟨HW.out, trivial⟩
        exact all_end (by decide)
      · intro x W hP hV
        clear hV
        have HP := Lib.hid hP
        clear hP
        simp only [putL, Act.put, List.setIfInBounds_toArray, List.set_cons_succ, List.set_cons_zero]
        refine wpAnyH_done (by kernel_rfl) ?_ _
        go_wp2_with fail
        go_ret
        obtain ⟨v3, HF, HC2, HE⟩ : WroteD base w W g vs vl n b M := HP.out
        rw [Int.toNat_natCast]
        exact ⟨rfl, v3, HF, HC2, HE⟩
  · have hh' : M.has i = false := by simpa using hh
    have e0 : WrotePost base w g vs vl M i b = fun e w' => e = .returned (.int .i64 1) ∧ Below w.heap.size w w' := by
      funext e w'; unfold WrotePost; rw [if_neg hh]
    rw [e0]
    have C1 := refhas_any base _ g vs vl M i H1.out
    rw [hh'] at C1
    go_enter Try.func22, Try.ntmps22
    go_wp2_with fail
    refine C1.mono ?_
    rintro e w1 ⟨rfl, rfl⟩
    go_wp2_with fail
    go_ret
    exact ⟨rfl, hb1⟩
end Go.Proofs.Ytcdcongeogmfkaa

/- The document's Flush. -/
set_option maxRecDepth 4000
namespace Go.Proofs.Ytcdcongeogmfkaa
open Go Go.RowKit
def DiskM.at_ (M : DiskM) (s : List (List (BitVec 8))) : DiskM := { M with s := s }
theorem DiskM.Ok.put {M : DiskM} (h : M.Ok) {s : List (List (BitVec 8))} (hl : s.length = M.s.length) (hs : ∀ b ∈ s, b.length = 32) : (M.at_ s).Ok :=
  ⟨by show 1 ≤ s.length; rw [hl]; exact h.lo, by show s.length ≤ 1024; rw [hl]; exact h.hi, hs, fun x hx => ⟨by show x.1 < s.length; rw [hl]; exact (h.l x hx).1, (h.l x hx).2⟩, h.f⟩
theorem sec_len {s : List (List (BitVec 8))} (h : ∀ b ∈ s, b.length = 32) : ∀ c ∈ s.map bytesV, c.length = 32 := by
  intro c hc; obtain ⟨b, hb, rfl⟩ := List.mem_map.1 hc; rw [len_bytesV]; exact h b hb
theorem wc_len {l : List (Nat × List (BitVec 8))} (h : ∀ x ∈ l, x.2.length = 32) : ∀ c ∈ l.map wcell, c.length = 33 := by
  intro c hc; obtain ⟨x, hx, rfl⟩ := List.mem_map.1 hc; rw [length_wcell x (h x hx)]
theorem RefD.loo_elem {base : Nat} {w : World} {g gl m cl k : Nat} {vs : Value} {M : DiskM} {x : Nat × List (BitVec 8)} (h : RefD base w g vs (.slice (some ⟨gl, 0, none⟩) m cl) M) (hx : M.l[k]? = some x) : w.rangeAt gl (k * 33) (wcell x) := by
  have hl := h.loo
  rw [own_n hl] at hl
  exact own_elem hl (wc_len fun x hx => (h.ok.l x hx).2) (by simp [hx])
theorem wcell_i {base : Nat} {w : World} {g gl m cl k : Nat} {vs : Value} {M : DiskM} {x : Nat × List (BitVec 8)} (h : RefD base w g vs (.slice (some ⟨gl, 0, none⟩) m cl) M) (hx : M.l[k]? = some x) : w.cell? ⟨gl, k * 33, none⟩ = some (.int .i64 (x.1 : Int)) := by
  have := h.loo_elem hx 0 _ rfl
  simpa using this
theorem wcell_b {base : Nat} {w : World} {g gl m cl k : Nat} {vs : Value} {M : DiskM} {x : Nat × List (BitVec 8)} (h : RefD base w g vs (.slice (some ⟨gl, 0, none⟩) m cl) M) (hx : M.l[k]? = some x) : w.rangeAt gl (k * 33 + 1) (bs x.2).toList := fun j v hv => by
  have := h.loo_elem hx (j + 1) v (by rw [bs_toList] at hv; simpa [wcell] using hv)
  rw [show k * 33 + 1 + j = k * 33 + (j + 1) by omega]; exact this
theorem there_sec {base : Nat} {w : World} {g gs n cs I : Nat} {vl : Value} {M : DiskM} (h : RefD base w g (.slice (some ⟨gs, 0, none⟩) n cs) vl M) (hI : I < M.s.length) : w.there gs (I * 32) 32 := by
  have hn : M.s.length = n := by rcases h.sec.2 with ⟨e, _⟩ | ⟨_, _, _, e, _⟩; cases e; injection e with _ e _; exact e.symm
  have hs := h.sec
  rw [hn] at hs
  exact own_there hs (sec_len h.ok.s) (by simpa using hI)
theorem stored_sec {base : Nat} {w : World} {g gs n cs I : Nat} {vl : Value} {M : DiskM} {b : List (BitVec 8)} (h : RefD base w g (.slice (some ⟨gs, 0, none⟩) n cs) vl M) (hI : I < M.s.length) (hb : b.length = 32) : RefD base (w.setCells gs (I * 32) (bytesV b)) g (.slice (some ⟨gs, 0, none⟩) n cs) vl (M.at_ (M.s.set I b)) := by
  have hn : M.s.length = n := by rcases h.sec.2 with ⟨e, _⟩ | ⟨_, _, _, e, _⟩; cases e; injection e with _ e _; exact e.symm
  have hs := h.sec
  rw [hn] at hs
  have h1 := own_store hs (sec_len h.ok.s) (k := I) (by simpa using hI) (c := bytesV b) (by rw [len_bytesV, hb])
  have c : Chg (fun j => j = gs) w (w.setCells gs (I * 32) (bytesV b)) := Chg.setCells (F := fun j => j = gs) (.inl rfl) _ _ (Chg.refl _ _)
  have hap := own_apart h.sec h.row (by decide)
  have hap2 := own_apart2 h.loo h.sec (by decide)
  refine ⟨h.hb, h.row.chg c (fun e => hap gs rfl e.symm), ?_, own_chg h.loo c (fun k hk e => hap2 k hk (by rw [e]; rfl)), h.ok.put (by simp) (fun d hd => ?_)⟩
  · show World.ownsRow _ _ _ _ _ (M.s.set I b).length ((M.s.set I b).map bytesV).flatten
    rw [List.length_set, hn, List.map_set]
    exact h1
  · rcases List.mem_or_eq_of_mem_set hd with h2 | h2
    · exact h.ok.s d h2
    · rw [h2]; exact hb
theorem fd_stays {base g gs : Nat} {vs vl : Value} {M : DiskM} {w W W' : World} (h : RefD base W g vs vl M ∧ Chg (fun j => j = g ∨ j = gs) w W) (k : Same W W') : RefD base W' g vs vl M ∧ Chg (fun j => j = g ∨ j = gs) w W' :=
  ⟨h.1.below k, h.2.trans (Chg.of_below (F := fun _ => False) k) fun _ h => h.elim⟩
theorem take_put (s : List (List (BitVec 8))) (l : List (Nat × List (BitVec 8))) (k : Nat) (x : Nat × List (BitVec 8)) (hx : l[k]? = some x) : DiskM.put s (l.take (k + 1)) = (DiskM.put s (l.take k)).set x.1 x.2 := by
  obtain ⟨hk, rfl⟩ := List.getElem?_eq_some_iff.1 hx
  rw [List.take_succ_eq_append_getElem hk, DiskM.put_snoc]
theorem RefD.emptied {base : Nat} {w : World} {g : Nat} {vs vl : Value} {M : DiskM} (h : RefD base w g vs vl M) : RefD base (w.setCell ⟨g, 1, none⟩ (.slice none 0 0)) g vs (.slice none 0 0) { M with l := [] } := by
  have c := Chg.one w g 1 (.slice none 0 0)
  exact ⟨h.hb, h.row.put 1 _, own_chg h.sec c (own_apart h.sec h.row (by decide)), World.ownsRow_nil _ _ _ _, h.ok.lo, h.ok.hi, h.ok.s, (fun x hx => by cases hx), h.ok.f⟩
def FlushPost (base : Nat) (w : World) (g : Nat) (vs vl : Value) (M : DiskM) : Ending → World → Prop := fun e w' =>
  if M.stuck then e = .returned (.int .i64 20) ∧ RefD base w' g vs vl M.fell ∧ Chg (fun k => k = g) w w'
  else e = .returned (.int .i64 0) ∧ RefD base w' g vs (.slice none 0 0) M.flushed ∧ Chg (fun k => k = g ∨ vs.ownBlock = some k) w w'
set_option maxRecDepth 20000 in
set_option maxHeartbeats 800000 in
theorem refflush_any (base : Nat) (w : World) (g : Nat) (vs vl : Value) (M : DiskM) (h : RefD base w g vs vl M) (hl : M.l.length ≤ 1000000000) :
    Calls Try.prog 35 #[.pointer (some ⟨g, 0, none⟩)] w (FlushPost base w g vs vl M) := by
  have H1 := Lib.hid h
  by_cases hs : M.stuck = true
  · have e0 : FlushPost base w g vs vl M = fun e w' => e = .returned (.int .i64 20) ∧ RefD base w' g vs vl M.fell ∧ Chg (fun k => k = g) w w' := by
      funext e w'; unfold FlushPost; rw [if_pos hs]
    rw [e0]
    have C2 := refthru_raw _ g vs vl M.f M.down H1.out.row H1.out.ok.f
    rw [show (M.down || M.f == 0) = true from hs] at C2
    clear h
    go_enter Try.func35, Try.ntmps35
    go_wp2_with fail
    refine C2.mono ?_
    rintro e w2 ⟨rfl, r2, c2⟩
    have H2 := Lib.hid (H1.out.next (M' := M.fell) rfl rfl H1.out.ok.fell r2 c2)
    have HC := Lib.hid c2
    clear C2 r2 c2
    go_wp2_with fail
    go_ret
    exact ⟨rfl, H2.out, HC.out⟩
  · have hs' : M.stuck = false := by simpa using hs
    have e0 : FlushPost base w g vs vl M = fun e w' => e = .returned (.int .i64 0) ∧ RefD base w' g vs (.slice none 0 0) M.flushed ∧ Chg (fun k => k = g ∨ vs.ownBlock = some k) w w' := by
      funext e w'; unfold FlushPost; rw [if_neg hs]
    rw [e0]
    have C2 := refthru_raw _ g vs vl M.f M.down H1.out.row H1.out.ok.f
    rw [show (M.down || M.f == 0) = false from hs'] at C2
    have HDN : Hid (M.down = false) := Lib.hid (by unfold DiskM.stuck at hs'; exact (Bool.or_eq_false_iff.1 hs').1)
    obtain ⟨gs, n, cs, rfl, hnn⟩ : ∃ gs n cs, vs = .slice (some ⟨gs, 0, none⟩) n cs ∧ M.s.length = n := by
      rcases h.sec.2 with ⟨_, h0⟩ | ⟨gs, cs, _, e, _⟩
      · have := h.ok.lo; omega
      · exact ⟨gs, _, cs, e, rfl⟩
    obtain ⟨Al, m, cl, rfl, hmm⟩ : ∃ Al m cl, vl = .slice Al m cl ∧ M.l.length = m := by
      obtain ⟨A, c, e, _⟩ := own_slice_form h.loo
      exact ⟨A, _, c, e, rfl⟩
    have HN := Lib.hid hnn
    have HM := Lib.hid hmm
    have hn := h.ok.hi
    rw [hnn] at hn
    rw [hmm] at hl
    clear e0 hs hs' h hnn hmm
    go_enter Try.func35, Try.ntmps35
    go_wp2_with fail
    refine C2.mono ?_
    rintro e w1 ⟨rfl, r2, c2⟩
    have r2' : Row w1 g 61 #[.slice (some ⟨gs, 0, none⟩) n cs, .slice Al m cl, .int .i64 M.burnt.f, .bool M.burnt.down] := by rw [show M.burnt.down = false from HDN.out]; exact r2
    have H2 := Lib.hid (H1.out.next (M' := M.burnt) rfl rfl H1.out.ok.burnt r2' c2)
    have HC0 := Lib.hid (c2.mono (F' := fun j => j = g ∨ j = gs) fun k hk => .inl (.inl hk))
    clear C2 r2 r2' c2 H1
    go_wp2_with fail
    go_loopw [3] (fun i wr => ∃ k : Nat, k ≤ m ∧ i = .int .i64 k ∧ RefD base wr g (.slice (some ⟨gs, 0, none⟩) n cs) (.slice Al m cl) (M.burnt.at_ (DiskM.put M.s (M.l.take k))) ∧ Chg (fun j => j = g ∨ j = gs) w wr) (fun i _ => m - (intOf i).toNat)
    case atStart => exact ⟨0, by omega, rfl, H2.out, HC0.out⟩
    case round =>
      obtain ⟨k, hk, rfl, hR, hC⟩ := hrel
      have HR := Lib.hid hR
      have HC := Lib.hid hC
      have k1 : wr.cell? ⟨g, 1, none⟩ = some (.slice Al m cl) := hR.row.get rfl
      clear H2 HC0
      by_cases hlt : k < m
      · obtain ⟨⟨I, b⟩, hx⟩ : ∃ x, M.l[k]? = some x := ⟨_, List.getElem?_eq_getElem (by rw [HM.out]; exact hlt)⟩
        obtain ⟨gl, rfl⟩ : ∃ gl, Al = some ⟨gl, 0, none⟩ := by
          rcases hR.loo.2 with ⟨_, h0⟩ | ⟨gl, _, _, e, _⟩
          · have e : M.l.length = 0 := h0
            rw [HM.out] at e
            omega
          · injection e with e _ _; exact ⟨gl, e⟩
        obtain ⟨Mk, hMk⟩ : ∃ Mk, M.burnt.at_ (DiskM.put M.s (M.l.take k)) = Mk := ⟨_, rfl⟩
        obtain ⟨Mk1, hMk1⟩ : ∃ Mk1, M.burnt.at_ (DiskM.put M.s (M.l.take (k + 1))) = Mk1 := ⟨_, rfl⟩
        have HK2 := Lib.hid hMk1.symm
        have HK1 : Hid (Mk1 = Mk.at_ (Mk.s.set I b)) := Lib.hid (by rw [← hMk1, ← hMk, take_put _ _ _ _ hx]; rfl)
        have HX : Hid (Mk.l[k]? = some (I, b)) := Lib.hid (by rw [← hMk]; exact hx)
        have hokl := hR.ok.l (I, b) (List.mem_of_getElem? hx)
        have hI : Hid (I < Mk.s.length) := Lib.hid (by rw [← hMk]; exact hokl.1)
        have HB : Hid (b.length = 32) := Lib.hid hokl.2
        have hIn : I < n := by
          have := hokl.1
          change I < (DiskM.put M.s (M.l.take k)).length at this
          rw [DiskM.length_put, HN.out] at this
          exact this
        rw [hMk] at HR
        clear hMk hMk1 hx hokl hR hC
        have hi0 : (0 : Int) ≤ (I : Int) := by omega
        have hi1 : (I : Int) < (n : Int) := by omega
        have hk0 : (0 : Int) ≤ (k : Int) := by omega
        have hk1 : (k : Int) < (m : Int) := by omega
        go_wp2_with fail
        have hF0 : Wl [fun W => RefD base W g (.slice (some ⟨gs, 0, none⟩) n cs) (.slice (some ⟨gl, 0, none⟩) m cl) Mk ∧ Chg (fun j => j = g ∨ j = gs) w W, fun W => RefD base W g (.slice (some ⟨gs, 0, none⟩) n cs) (.slice (some ⟨gl, 0, none⟩) m cl) Mk1 ∧ Chg (fun j => j = g ∨ j = gs) w W] 0 wr.drew := ⟨HR.out.below (Below.refl _ _).drew, HC.out.drew⟩
        refine wp_region_phs [is (.pointer (some ⟨g, 0, none⟩)), is (.pointer (some ⟨g, 0, none⟩)), is (.pointer (some ⟨g, 0, none⟩)), is (.slice (some ⟨gs, 0, none⟩) n cs), is (.pointer (some ⟨g, 0, none⟩)), is (.pointer (some ⟨g, 0, none⟩)), is (.pointer (some ⟨g, 1, none⟩)), is (.slice (some ⟨gl, 0, none⟩) m cl), is (.int .i64 (k : Int)), is (.pointer (some ⟨gl, k * 33, none⟩)), is (.pointer (some ⟨gl, k * 33, none⟩)), is (.int .i64 (I : Int)), is (.pointer (some ⟨g, 0, none⟩)), is (.pointer (some ⟨g, 0, none⟩)), is (.pointer (some ⟨g, 1, none⟩)), is (.slice (some ⟨gl, 0, none⟩) m cl), is (.int .i64 (k : Int)), is (.pointer (some ⟨gl, k * 33, none⟩)), is (.pointer (some ⟨gl, k * 33 + 1, none⟩)), is (.agg (bs b)), is (.pointer (some ⟨gs, I * 32, none⟩)), anyV] [true, true, true, true, true, true, true, true, true, true, true, true, true, true, true, true, true, true, true, true, true, true] [(fun W => RefD base W g (.slice (some ⟨gs, 0, none⟩) n cs) (.slice (some ⟨gl, 0, none⟩) m cl) Mk ∧ Chg (fun j => j = g ∨ j = gs) w W), (fun W => RefD base W g (.slice (some ⟨gs, 0, none⟩) n cs) (.slice (some ⟨gl, 0, none⟩) m cl) Mk1 ∧ Chg (fun j => j = g ∨ j = gs) w W)] [false, false, false, false, false, false, false, false, false, false, false, false, false, false, false, false, false, false, false, false, false, true] [some 0, some 0, some 0, some 0, some 0, some 0, some 0, some 0, some 0, some 0, some 0, some 0, some 0, some 0, some 0, some 0, some 0, some 0, some 0, some 0, some 0, some 0] [some 16, some 17, some 18, some 19, some 20, some 21, some 22, some 23, some 24, some 25, some 26, some 27, some 28, some 29, some 30, some 31, some 32, some 33, some 34, some 35, some 36, none] 22 1 (fun _ => true) rfl rfl (by kernel_rfl) (by kernel_rfl) (by kernel_rfl) (by kernel_rfl) ?_ ?_ ?_ ?_ ?_ ?_
        · repeat first | exact wok_nil | refine wok_cons (by first | exact fun _ _ h k => fd_stays h k) ?_
        · repeat first | exact vok_nil | refine vok_rig (by first | exact fun _ _ _ h => h) ?_ | refine vok_soft (by first | exact fun _ _ _ h _ => h) ?_
        · exact hF0
        · repeat first | exact all_end (by decide) | refine all_cons (by first | exact rfl | exact ⟨rfl, fun _ _ h => Or.inl h⟩ | exact ⟨rfl, fun _ _ h => Or.inr ⟨h, rfl⟩⟩) ?_
        · refine allp_mild 0 rfl rfl rfl (fun a x W hout hin hP => ?_) ?_
          · have e0 : a.tmps[0]? = some (.pointer (some ⟨g, 0, none⟩)) := (hout 0 (by kernel_rfl)).trans rfl
            exact does_move rfl e0 ⟨Same.refl _, rfl⟩
          refine allp_mild 0 rfl rfl rfl (fun a x W hout hin hP => ?_) ?_
          · have e16 := hin.is 0 16 (by kernel_rfl) (by decide) (by kernel_rfl) (by kernel_rfl) _ rfl
            clear hin hout
            intro K Q hK
            go_simp
            exact hK _ _ ⟨Same.refl _, rfl⟩
          refine allp_mild 0 rfl rfl rfl (fun a x W hout hin hP => ?_) ?_
          · have e17 := hin.is 1 17 (by kernel_rfl) (by decide) (by kernel_rfl) (by kernel_rfl) _ rfl
            clear hin hout
            intro K Q hK
            go_simp
            exact hK _ _ ⟨Same.refl _, rfl⟩
          refine allp_mild 0 rfl rfl rfl (fun a x W hout hin hP => ?_) ?_
          · have e18 := hin.is 2 18 (by kernel_rfl) (by decide) (by kernel_rfl) (by kernel_rfl) _ rfl
            have hc : W.cell? ⟨g, 0, none⟩ = some (.slice (some ⟨gs, 0, none⟩) n cs) := hP.1.row.get rfl
            clear hP
            clear hin hout
            intro K Q hK
            go_simp
            exact hK _ _ ⟨Same.refl _, rfl⟩
          refine allp_mild 0 rfl rfl rfl (fun a x W hout hin hP => ?_) ?_
          · have e0 : a.tmps[0]? = some (.pointer (some ⟨g, 0, none⟩)) := (hout 0 (by kernel_rfl)).trans rfl
            exact does_move rfl e0 ⟨Same.refl _, rfl⟩
          refine allp_mild 0 rfl rfl rfl (fun a x W hout hin hP => ?_) ?_
          · have e20 := hin.is 4 20 (by kernel_rfl) (by decide) (by kernel_rfl) (by kernel_rfl) _ rfl
            clear hin hout
            intro K Q hK
            go_simp
            exact hK _ _ ⟨Same.refl _, rfl⟩
          refine allp_mild 0 rfl rfl rfl (fun a x W hout hin hP => ?_) ?_
          · have e21 := hin.is 5 21 (by kernel_rfl) (by decide) (by kernel_rfl) (by kernel_rfl) _ rfl
            clear hin hout
            intro K Q hK
            go_simp
            exact hK _ _ ⟨Same.refl _, rfl⟩
          refine allp_mild 0 rfl rfl rfl (fun a x W hout hin hP => ?_) ?_
          · have e22 := hin.is 6 22 (by kernel_rfl) (by decide) (by kernel_rfl) (by kernel_rfl) _ rfl
            have hc : W.cell? ⟨g, 1, none⟩ = some (.slice (some ⟨gl, 0, none⟩) m cl) := hP.1.row.get rfl
            clear hP
            clear hin hout
            intro K Q hK
            go_simp
            exact hK _ _ ⟨Same.refl _, rfl⟩
          refine allp_mild 0 rfl rfl rfl (fun a x W hout hin hP => ?_) ?_
          · have e3 : a.tmps[3]? = some (.int .i64 (k : Int)) := (hout 3 (by kernel_rfl)).trans rfl
            exact does_move rfl e3 ⟨Same.refl _, rfl⟩
          refine allp_mild 0 rfl rfl rfl (fun a x W hout hin hP => ?_) ?_
          · have e23 := hin.is 7 23 (by kernel_rfl) (by decide) (by kernel_rfl) (by kernel_rfl) _ rfl
            have e24 := hin.is 8 24 (by kernel_rfl) (by decide) (by kernel_rfl) (by kernel_rfl) _ rfl
            clear hin hout
            intro K Q hK
            go_simp
            exact hK _ _ ⟨Same.refl _, rfl⟩
          refine allp_mild 0 rfl rfl rfl (fun a x W hout hin hP => ?_) ?_
          · have e25 := hin.is 9 25 (by kernel_rfl) (by decide) (by kernel_rfl) (by kernel_rfl) _ rfl
            clear hin hout
            intro K Q hK
            go_simp
            exact hK _ _ ⟨Same.refl _, rfl⟩
          refine allp_mild 0 rfl rfl rfl (fun a x W hout hin hP => ?_) ?_
          · have e26 := hin.is 10 26 (by kernel_rfl) (by decide) (by kernel_rfl) (by kernel_rfl) _ rfl
            have hc : W.cell? ⟨gl, k * 33, none⟩ = some (.int .i64 (I : Int)) := wcell_i hP.1 HX.out
            clear hP
            clear hin hout
            intro K Q hK
            go_simp
            exact hK _ _ ⟨Same.refl _, rfl⟩
          refine allp_mild 0 rfl rfl rfl (fun a x W hout hin hP => ?_) ?_
          · have e0 : a.tmps[0]? = some (.pointer (some ⟨g, 0, none⟩)) := (hout 0 (by kernel_rfl)).trans rfl
            exact does_move rfl e0 ⟨Same.refl _, rfl⟩
          refine allp_mild 0 rfl rfl rfl (fun a x W hout hin hP => ?_) ?_
          · have e28 := hin.is 12 28 (by kernel_rfl) (by decide) (by kernel_rfl) (by kernel_rfl) _ rfl
            clear hin hout
            intro K Q hK
            go_simp
            exact hK _ _ ⟨Same.refl _, rfl⟩
          refine allp_mild 0 rfl rfl rfl (fun a x W hout hin hP => ?_) ?_
          · have e29 := hin.is 13 29 (by kernel_rfl) (by decide) (by kernel_rfl) (by kernel_rfl) _ rfl
            clear hin hout
            intro K Q hK
            go_simp
            exact hK _ _ ⟨Same.refl _, rfl⟩
          refine allp_mild 0 rfl rfl rfl (fun a x W hout hin hP => ?_) ?_
          · have e30 := hin.is 14 30 (by kernel_rfl) (by decide) (by kernel_rfl) (by kernel_rfl) _ rfl
            have hc : W.cell? ⟨g, 1, none⟩ = some (.slice (some ⟨gl, 0, none⟩) m cl) := hP.1.row.get rfl
            clear hP
            clear hin hout
            intro K Q hK
            go_simp
            exact hK _ _ ⟨Same.refl _, rfl⟩
          refine allp_mild 0 rfl rfl rfl (fun a x W hout hin hP => ?_) ?_
          · have e3 : a.tmps[3]? = some (.int .i64 (k : Int)) := (hout 3 (by kernel_rfl)).trans rfl
            exact does_move rfl e3 ⟨Same.refl _, rfl⟩
          refine allp_mild 0 rfl rfl rfl (fun a x W hout hin hP => ?_) ?_
          · have e31 := hin.is 15 31 (by kernel_rfl) (by decide) (by kernel_rfl) (by kernel_rfl) _ rfl
            have e32 := hin.is 16 32 (by kernel_rfl) (by decide) (by kernel_rfl) (by kernel_rfl) _ rfl
            clear hin hout
            intro K Q hK
            go_simp
            exact hK _ _ ⟨Same.refl _, rfl⟩
          refine allp_mild 0 rfl rfl rfl (fun a x W hout hin hP => ?_) ?_
          · have e33 := hin.is 17 33 (by kernel_rfl) (by decide) (by kernel_rfl) (by kernel_rfl) _ rfl
            clear hin hout
            intro K Q hK
            go_simp
            exact hK _ _ ⟨Same.refl _, rfl⟩
          refine allp_mild 0 rfl rfl rfl (fun a x W hout hin hP => ?_) ?_
          · have e34 := hin.is 18 34 (by kernel_rfl) (by decide) (by kernel_rfl) (by kernel_rfl) _ rfl
            clear hin hout
            intro K Q hK
            refine wp_load_mid 52 (.tmp 34) rfl gl (k * 33 + 1) (eval_of_get e34) (bs b).toList _ (wcell_b hP.1 HX.out) Try.underlying52 rfl (by rw [len_bs, HB.out]; exact size_blk) ?_
            exact hK _ _ ⟨Same.refl _, by simp [Vs, is]⟩
          refine allp_mild 0 rfl rfl rfl (fun a x W hout hin hP => ?_) ?_
          · have e19 := hin.is 3 19 (by kernel_rfl) (by decide) (by kernel_rfl) (by kernel_rfl) _ rfl
            have e27 := hin.is 11 27 (by kernel_rfl) (by decide) (by kernel_rfl) (by kernel_rfl) _ rfl
            clear hin hout
            intro K Q hK
            go_simp
            exact hK _ _ ⟨Same.refl _, rfl⟩
          refine allp_wild 0 rfl rfl rfl (fun a x W hout hin hP => ?_) ?_
          · have e36 := hin.is 20 36 (by kernel_rfl) (by decide) (by kernel_rfl) (by kernel_rfl) _ rfl
            have e35 := hin.is 19 35 (by kernel_rfl) (by decide) (by kernel_rfl) (by kernel_rfl) _ rfl
            clear hout
            intro K Q hK
            have HS := stored_sec hP.1 hI.out HB.out
            have HC := hP.2
            refine wp_store_mid 52 (.tmp 36) (.tmp 35) rfl gs (I * 32) (bs b) (eval_of_get e36) (eval_of_get e35) (by rw [size_bs, HB.out]; exact there_sec hP.1 hI.out) (by rw [size_bs, HB.out]; exact size_blk) (one_bs _) ?_
            rw [bs_toList]
            exact hK undef _ ⟨⟨by rw [HK1.out]; exact HS, Chg.setCells (.inl (.inr rfl)) _ _ HC⟩, trivial⟩
          exact all_end (by decide)
        · intro x W hP hV
          clear hV
          obtain ⟨hD, hC⟩ : RefD base W g (.slice (some ⟨gs, 0, none⟩) n cs) (.slice (some ⟨gl, 0, none⟩) m cl) Mk1 ∧ Chg (fun j => j = g ∨ j = gs) w W := hP
          have HD := Lib.hid hD
          have HC := Lib.hid hC
          clear hD hC
          simp only [putL, Act.put, List.setIfInBounds_toArray, List.set_cons_succ, List.set_cons_zero]
          refine wpAnyH_done (by kernel_rfl) ?_ _
          go_wp2_with fail
          go_roundw
          case rel => exact ⟨k + 1, by omega, by go_num, by rw [← HK2.out]; exact HD.out, HC.out⟩
          case measure => simp [intOf]; omega
      · obtain rfl : k = m := by omega
        have e1 : M.l.take k = M.l := by rw [← HM.out, List.take_length]
        rw [e1] at HR
        have f1 := hR.row.free 1
        have H9 := Lib.hid HR.out.emptied
        have HC9 := Lib.hid (HC.out.setCell (p := ⟨g, 1, none⟩) (.inl (.inl rfl)) (.slice none 0 0))
        clear hR hC e1
        go_wp2_with fail
        go_ret
        exact ⟨rfl, H9.out, HC9.out.mono fun j hj => .inl (hj.imp id fun e => by rw [e]; rfl)⟩
end Go.Proofs.Ytcdcongeogmfkaa

/- The document's Up. -/
set_option maxRecDepth 4000
namespace Go.Proofs.Ytcdcongeogmfkaa
open Go Go.RowKit
def keptTo (l : List (Nat × List (BitVec 8))) (keep : List (BitVec 8)) (k : Nat) : List (Nat × List (BitVec 8)) := (((l.zip keep).take k).filter fun x => x.2.getLsbD 0).map (·.1)
theorem keptTo_all (l : List (Nat × List (BitVec 8))) (keep : List (BitVec 8)) (k : Nat) (h : l.length ≤ k ∨ keep.length ≤ k) : keptTo l keep k = DiskM.kept l keep := by
  unfold keptTo DiskM.kept
  rw [List.take_of_length_le (by rw [List.length_zip]; omega)]
theorem keptTo_step (l : List (Nat × List (BitVec 8))) (keep : List (BitVec 8)) (k : Nat) (x : Nat × List (BitVec 8)) (y : BitVec 8) (hx : l[k]? = some x) (hy : keep[k]? = some y) : keptTo l keep (k + 1) = keptTo l keep k ++ if y.getLsbD 0 then [x] else [] := by
  have hk : k < (l.zip keep).length := by
    rw [List.length_zip]; have := (List.getElem?_eq_some_iff.1 hx).1; have := (List.getElem?_eq_some_iff.1 hy).1; omega
  have hz : (l.zip keep)[k] = (x, y) := by
    have h1 : (l.zip keep)[k]? = some (x, y) := by simp [List.getElem?_zip_eq_some, hx, hy]
    rw [List.getElem?_eq_getElem hk] at h1
    injection h1
  unfold keptTo
  rw [List.take_succ_eq_append_getElem hk, hz, List.filter_append, List.map_append]
  congr 1
  cases h : y.getLsbD 0 <;> simp only [List.filter_cons, List.filter_nil, h] <;> rfl
theorem odd_bd (y : BitVec 8) : (bd y).tmod 2 = if y.getLsbD 0 then 1 else 0 := by
  rw [Int.tmod_eq_emod_of_nonneg (bd_lo y)]
  unfold bd
  have e : y.getLsbD 0 = decide (y.toNat % 2 = 1) := by
    unfold BitVec.getLsbD; rw [Nat.testBit_zero]
  rw [e]
  by_cases h : y.toNat % 2 = 1
  · rw [decide_eq_true h, if_pos rfl]; omega
  · rw [decide_eq_false h, if_neg (by decide)]; omega
def UpPost (base : Nat) (w : World) (g : Nat) (vs : Value) (M : DiskM) (keep : List (BitVec 8)) : Ending → World → Prop := fun e w' =>
  e = .returned (.tuple #[]) ∧ RefD base w' g vs (.slice none 0 0) (M.upped keep) ∧ Chg (fun k => k = g ∨ vs.ownBlock = some k) w w'
theorem RefD.upped {base : Nat} {w : World} {g : Nat} {vs vl : Value} {M : DiskM} (h : RefD base w g vs vl M) : RefD base (((w.setCell ⟨g, 1, none⟩ (.slice none 0 0)).setCell ⟨g, 2, none⟩ (.int .i64 (-1))).setCell ⟨g, 3, none⟩ (.bool false)) g vs (.slice none 0 0) ⟨M.s, [], -1, false⟩ := by
  have c := ((Chg.one w g 1 (.slice none 0 0)).setCell (p := ⟨g, 2, none⟩) (.inl rfl) (.int .i64 (-1))).setCell (p := ⟨g, 3, none⟩) (.inl rfl) (.bool false)
  exact ⟨h.hb, ((h.row.put 1 _).put 2 _).put 3 _, own_chg h.sec c (own_apart h.sec h.row (by decide)), World.ownsRow_nil _ _ _ _, h.ok.lo, h.ok.hi, h.ok.s, (fun x hx => by cases hx), by simp⟩
set_option maxRecDepth 20000 in
set_option maxHeartbeats 800000 in
theorem refup_any (base : Nat) (w : World) (g : Nat) (vs vl : Value) (M : DiskM) (v : Value) (keep : List (BitVec 8)) (h : RefD base w g vs vl M) (hl : M.l.length ≤ 1000000000) (hv : Slice w v keep) (hkl : keep.length ≤ 1000000000) (hbase : keep ≠ [] → ∀ b o, (∃ n c, v = .slice (some ⟨b, o, none⟩) n c) → b ≠ g ∧ vs.ownBlock ≠ some b) :
    Calls Try.prog 19 #[.pointer (some ⟨g, 0, none⟩), v] w (UpPost base w g vs M keep) := by
  have H2 := Lib.hid h
  obtain ⟨gs, n, cs, rfl, hnn⟩ : ∃ gs n cs, vs = .slice (some ⟨gs, 0, none⟩) n cs ∧ M.s.length = n := by
    rcases h.sec.2 with ⟨_, h0⟩ | ⟨gs, cs, _, e, _⟩
    · have := h.ok.lo; omega
    · exact ⟨gs, _, cs, e, rfl⟩
  obtain ⟨Al, m, cl, rfl, hmm⟩ : ∃ Al m cl, vl = .slice Al m cl ∧ M.l.length = m := by
    obtain ⟨A, c, e, _⟩ := own_slice_form h.loo
    exact ⟨A, _, c, e, rfl⟩
  have HN := Lib.hid hnn
  have HM := Lib.hid hmm
  have hn := h.ok.hi
  rw [hnn] at hn
  rw [hmm] at hl
  obtain ⟨Ak, ck, rfl, _, hkc⟩ := hv
  have HKC := Lib.hid hkc
  obtain ⟨p, hp⟩ : ∃ p, keep.length = p := ⟨_, rfl⟩
  have HPL := Lib.hid hp
  have HBA := Lib.hid hbase
  rw [hp] at HBA hkl ⊢
  clear h hnn hmm hkc hp hbase
  go_enter Try.func19, Try.ntmps19
  go_wp2_with fail
  go_loopw [4] (fun i wr => ∃ k : Nat, k ≤ m ∧ k ≤ p ∧ i = .int .i64 k ∧ RefD base wr g (.slice (some ⟨gs, 0, none⟩) n cs) (.slice Al m cl) (M.at_ (DiskM.put M.s (keptTo M.l keep k))) ∧ Chg (fun j => j = g ∨ j = gs) w wr) (fun i _ => m - (intOf i).toNat)
  case atStart => exact ⟨0, by omega, by omega, rfl, H2.out, Chg.refl _ _⟩
  case round =>
    obtain ⟨k, hk, hkp, rfl, hR, hC⟩ := hrel
    have HR := Lib.hid hR
    have HC := Lib.hid hC
    have k1 : wr.cell? ⟨g, 1, none⟩ = some (.slice Al m cl) := hR.row.get rfl
    clear H2
    by_cases hlt : k < m ∧ k < p
    · obtain ⟨hlt, hltp⟩ := hlt
      obtain ⟨⟨I, b⟩, hx⟩ : ∃ x, M.l[k]? = some x := ⟨_, List.getElem?_eq_getElem (by rw [HM.out]; exact hlt)⟩
      obtain ⟨y, hy⟩ : ∃ y, keep[k]? = some y := ⟨_, List.getElem?_eq_getElem (by rw [HPL.out]; exact hltp)⟩
      obtain ⟨gl, rfl⟩ : ∃ gl, Al = some ⟨gl, 0, none⟩ := by
        rcases hR.loo.2 with ⟨_, h0⟩ | ⟨gl, _, _, e, _⟩
        · have e : M.l.length = 0 := h0
          rw [HM.out] at e
          omega
        · injection e with e _ _; exact ⟨gl, e⟩
      have hkne : keep ≠ [] := by intro e; rw [e] at hy; simp at hy
      obtain ⟨bk, ok, rfl, hbk, hck⟩ := HKC.out hkne
      have hnk := HBA.out hkne bk ok ⟨_, _, rfl⟩
      have cy : wr.cell? ⟨bk, ok + k, none⟩ = some (.int .u8 (bd y)) := (World.cell?_of_block (hC.block bk hbk fun e => by
        rcases e with e | e
        · exact hnk.1 e
        · exact hnk.2 (by rw [e]; rfl))).trans (hck k y hy)
      have hstep := keptTo_step M.l keep k (I, b) y hx hy
      have hod := odd_bd y
      have hk0 : (0 : Int) ≤ (k : Int) := by omega
      have hk1 : (k : Int) < (m : Int) := by omega
      have hk2 : (k : Int) < (p : Int) := by omega
      clear hck hbk hnk HKC hkne
      cases hbit : y.getLsbD 0 with
      | true =>
        rw [hbit, if_pos rfl] at hstep hod
        obtain ⟨Mk, hMk⟩ : ∃ Mk, M.at_ (DiskM.put M.s (keptTo M.l keep k)) = Mk := ⟨_, rfl⟩
        obtain ⟨Mk1, hMk1⟩ : ∃ Mk1, M.at_ (DiskM.put M.s (keptTo M.l keep (k + 1))) = Mk1 := ⟨_, rfl⟩
        have HK2 := Lib.hid hMk1.symm
        have HK1 : Hid (Mk1 = Mk.at_ (Mk.s.set I b)) := Lib.hid (by rw [← hMk1, ← hMk, hstep, DiskM.put_snoc]; rfl)
        have HX : Hid (Mk.l[k]? = some (I, b)) := Lib.hid (by rw [← hMk]; exact hx)
        have hokl := hR.ok.l (I, b) (List.mem_of_getElem? hx)
        have hI : Hid (I < Mk.s.length) := Lib.hid (by rw [← hMk]; exact hokl.1)
        have HB : Hid (b.length = 32) := Lib.hid hokl.2
        have hIn : I < n := by
          have := hokl.1
          change I < (DiskM.put M.s (keptTo M.l keep k)).length at this
          rw [DiskM.length_put, HN.out] at this
          exact this
        rw [hMk] at HR
        have cond : ((bd y).tmod 2 == 1) = true := by rw [hod]; rfl
        have hi0 : (0 : Int) ≤ (I : Int) := by omega
        have hi1 : (I : Int) < (n : Int) := by omega
        clear hMk hMk1 hx hokl hR hC hy hstep hod hbit
        go_wp2_with fail
        have hF0 : Wl [fun W => RefD base W g (.slice (some ⟨gs, 0, none⟩) n cs) (.slice (some ⟨gl, 0, none⟩) m cl) Mk ∧ Chg (fun j => j = g ∨ j = gs) w W, fun W => RefD base W g (.slice (some ⟨gs, 0, none⟩) n cs) (.slice (some ⟨gl, 0, none⟩) m cl) Mk1 ∧ Chg (fun j => j = g ∨ j = gs) w W] 0 wr.drew := ⟨HR.out.below (Below.refl _ _).drew, HC.out.drew⟩
        refine wp_region_phs [is (.pointer (some ⟨g, 0, none⟩)), is (.pointer (some ⟨g, 0, none⟩)), is (.pointer (some ⟨g, 0, none⟩)), is (.slice (some ⟨gs, 0, none⟩) n cs), is (.pointer (some ⟨g, 0, none⟩)), is (.pointer (some ⟨g, 0, none⟩)), is (.pointer (some ⟨g, 1, none⟩)), is (.slice (some ⟨gl, 0, none⟩) m cl), is (.int .i64 (k : Int)), is (.pointer (some ⟨gl, k * 33, none⟩)), is (.pointer (some ⟨gl, k * 33, none⟩)), is (.int .i64 (I : Int)), is (.pointer (some ⟨g, 0, none⟩)), is (.pointer (some ⟨g, 0, none⟩)), is (.pointer (some ⟨g, 1, none⟩)), is (.slice (some ⟨gl, 0, none⟩) m cl), is (.int .i64 (k : Int)), is (.pointer (some ⟨gl, k * 33, none⟩)), is (.pointer (some ⟨gl, k * 33 + 1, none⟩)), is (.agg (bs b)), is (.pointer (some ⟨gs, I * 32, none⟩)), anyV] [true, true, true, true, true, true, true, true, true, true, true, true, true, true, true, true, true, true, true, true, true, true] [(fun W => RefD base W g (.slice (some ⟨gs, 0, none⟩) n cs) (.slice (some ⟨gl, 0, none⟩) m cl) Mk ∧ Chg (fun j => j = g ∨ j = gs) w W), (fun W => RefD base W g (.slice (some ⟨gs, 0, none⟩) n cs) (.slice (some ⟨gl, 0, none⟩) m cl) Mk1 ∧ Chg (fun j => j = g ∨ j = gs) w W)] [false, false, false, false, false, false, false, false, false, false, false, false, false, false, false, false, false, false, false, false, false, true] [some 0, some 0, some 0, some 0, some 0, some 0, some 0, some 0, some 0, some 0, some 0, some 0, some 0, some 0, some 0, some 0, some 0, some 0, some 0, some 0, some 0, some 0] [some 26, some 27, some 28, some 29, some 30, some 31, some 32, some 33, some 34, some 35, some 36, some 37, some 38, some 39, some 40, some 41, some 42, some 43, some 44, some 45, some 46, none] 22 1 (fun _ => true) rfl rfl (by kernel_rfl) (by kernel_rfl) (by kernel_rfl) (by kernel_rfl) ?_ ?_ ?_ ?_ ?_ ?_
        · repeat first | exact wok_nil | refine wok_cons (by first | exact fun _ _ h k => fd_stays h k) ?_
        · repeat first | exact vok_nil | refine vok_rig (by first | exact fun _ _ _ h => h) ?_ | refine vok_soft (by first | exact fun _ _ _ h _ => h) ?_
        · exact hF0
        · repeat first | exact all_end (by decide) | refine all_cons (by first | exact rfl | exact ⟨rfl, fun _ _ h => Or.inl h⟩ | exact ⟨rfl, fun _ _ h => Or.inr ⟨h, rfl⟩⟩) ?_
        · refine allp_mild 0 rfl rfl rfl (fun a x W hout hin hP => ?_) ?_
          · have e0 : a.tmps[0]? = some (.pointer (some ⟨g, 0, none⟩)) := (hout 0 (by kernel_rfl)).trans rfl
            exact does_move rfl e0 ⟨Same.refl _, rfl⟩
          refine allp_mild 0 rfl rfl rfl (fun a x W hout hin hP => ?_) ?_
          · have e26 := hin.is 0 26 (by kernel_rfl) (by decide) (by kernel_rfl) (by kernel_rfl) _ rfl
            clear hin hout
            intro K Q hK
            go_simp
            exact hK _ _ ⟨Same.refl _, rfl⟩
          refine allp_mild 0 rfl rfl rfl (fun a x W hout hin hP => ?_) ?_
          · have e27 := hin.is 1 27 (by kernel_rfl) (by decide) (by kernel_rfl) (by kernel_rfl) _ rfl
            clear hin hout
            intro K Q hK
            go_simp
            exact hK _ _ ⟨Same.refl _, rfl⟩
          refine allp_mild 0 rfl rfl rfl (fun a x W hout hin hP => ?_) ?_
          · have e28 := hin.is 2 28 (by kernel_rfl) (by decide) (by kernel_rfl) (by kernel_rfl) _ rfl
            have hc : W.cell? ⟨g, 0, none⟩ = some (.slice (some ⟨gs, 0, none⟩) n cs) := hP.1.row.get rfl
            clear hP
            clear hin hout
            intro K Q hK
            go_simp
            exact hK _ _ ⟨Same.refl _, rfl⟩
          refine allp_mild 0 rfl rfl rfl (fun a x W hout hin hP => ?_) ?_
          · have e0 : a.tmps[0]? = some (.pointer (some ⟨g, 0, none⟩)) := (hout 0 (by kernel_rfl)).trans rfl
            exact does_move rfl e0 ⟨Same.refl _, rfl⟩
          refine allp_mild 0 rfl rfl rfl (fun a x W hout hin hP => ?_) ?_
          · have e30 := hin.is 4 30 (by kernel_rfl) (by decide) (by kernel_rfl) (by kernel_rfl) _ rfl
            clear hin hout
            intro K Q hK
            go_simp
            exact hK _ _ ⟨Same.refl _, rfl⟩
          refine allp_mild 0 rfl rfl rfl (fun a x W hout hin hP => ?_) ?_
          · have e31 := hin.is 5 31 (by kernel_rfl) (by decide) (by kernel_rfl) (by kernel_rfl) _ rfl
            clear hin hout
            intro K Q hK
            go_simp
            exact hK _ _ ⟨Same.refl _, rfl⟩
          refine allp_mild 0 rfl rfl rfl (fun a x W hout hin hP => ?_) ?_
          · have e32 := hin.is 6 32 (by kernel_rfl) (by decide) (by kernel_rfl) (by kernel_rfl) _ rfl
            have hc : W.cell? ⟨g, 1, none⟩ = some (.slice (some ⟨gl, 0, none⟩) m cl) := hP.1.row.get rfl
            clear hP
            clear hin hout
            intro K Q hK
            go_simp
            exact hK _ _ ⟨Same.refl _, rfl⟩
          refine allp_mild 0 rfl rfl rfl (fun a x W hout hin hP => ?_) ?_
          · have e4 : a.tmps[4]? = some (.int .i64 (k : Int)) := (hout 4 (by kernel_rfl)).trans rfl
            exact does_move rfl e4 ⟨Same.refl _, rfl⟩
          refine allp_mild 0 rfl rfl rfl (fun a x W hout hin hP => ?_) ?_
          · have e33 := hin.is 7 33 (by kernel_rfl) (by decide) (by kernel_rfl) (by kernel_rfl) _ rfl
            have e34 := hin.is 8 34 (by kernel_rfl) (by decide) (by kernel_rfl) (by kernel_rfl) _ rfl
            clear hin hout
            intro K Q hK
            go_simp
            exact hK _ _ ⟨Same.refl _, rfl⟩
          refine allp_mild 0 rfl rfl rfl (fun a x W hout hin hP => ?_) ?_
          · have e35 := hin.is 9 35 (by kernel_rfl) (by decide) (by kernel_rfl) (by kernel_rfl) _ rfl
            clear hin hout
            intro K Q hK
            go_simp
            exact hK _ _ ⟨Same.refl _, rfl⟩
          refine allp_mild 0 rfl rfl rfl (fun a x W hout hin hP => ?_) ?_
          · have e36 := hin.is 10 36 (by kernel_rfl) (by decide) (by kernel_rfl) (by kernel_rfl) _ rfl
            have hc : W.cell? ⟨gl, k * 33, none⟩ = some (.int .i64 (I : Int)) := wcell_i hP.1 HX.out
            clear hP
            clear hin hout
            intro K Q hK
            go_simp
            exact hK _ _ ⟨Same.refl _, rfl⟩
          refine allp_mild 0 rfl rfl rfl (fun a x W hout hin hP => ?_) ?_
          · have e0 : a.tmps[0]? = some (.pointer (some ⟨g, 0, none⟩)) := (hout 0 (by kernel_rfl)).trans rfl
            exact does_move rfl e0 ⟨Same.refl _, rfl⟩
          refine allp_mild 0 rfl rfl rfl (fun a x W hout hin hP => ?_) ?_
          · have e38 := hin.is 12 38 (by kernel_rfl) (by decide) (by kernel_rfl) (by kernel_rfl) _ rfl
            clear hin hout
            intro K Q hK
            go_simp
            exact hK _ _ ⟨Same.refl _, rfl⟩
          refine allp_mild 0 rfl rfl rfl (fun a x W hout hin hP => ?_) ?_
          · have e39 := hin.is 13 39 (by kernel_rfl) (by decide) (by kernel_rfl) (by kernel_rfl) _ rfl
            clear hin hout
            intro K Q hK
            go_simp
            exact hK _ _ ⟨Same.refl _, rfl⟩
          refine allp_mild 0 rfl rfl rfl (fun a x W hout hin hP => ?_) ?_
          · have e40 := hin.is 14 40 (by kernel_rfl) (by decide) (by kernel_rfl) (by kernel_rfl) _ rfl
            have hc : W.cell? ⟨g, 1, none⟩ = some (.slice (some ⟨gl, 0, none⟩) m cl) := hP.1.row.get rfl
            clear hP
            clear hin hout
            intro K Q hK
            go_simp
            exact hK _ _ ⟨Same.refl _, rfl⟩
          refine allp_mild 0 rfl rfl rfl (fun a x W hout hin hP => ?_) ?_
          · have e4 : a.tmps[4]? = some (.int .i64 (k : Int)) := (hout 4 (by kernel_rfl)).trans rfl
            exact does_move rfl e4 ⟨Same.refl _, rfl⟩
          refine allp_mild 0 rfl rfl rfl (fun a x W hout hin hP => ?_) ?_
          · have e41 := hin.is 15 41 (by kernel_rfl) (by decide) (by kernel_rfl) (by kernel_rfl) _ rfl
            have e42 := hin.is 16 42 (by kernel_rfl) (by decide) (by kernel_rfl) (by kernel_rfl) _ rfl
            clear hin hout
            intro K Q hK
            go_simp
            exact hK _ _ ⟨Same.refl _, rfl⟩
          refine allp_mild 0 rfl rfl rfl (fun a x W hout hin hP => ?_) ?_
          · have e43 := hin.is 17 43 (by kernel_rfl) (by decide) (by kernel_rfl) (by kernel_rfl) _ rfl
            clear hin hout
            intro K Q hK
            go_simp
            exact hK _ _ ⟨Same.refl _, rfl⟩
          refine allp_mild 0 rfl rfl rfl (fun a x W hout hin hP => ?_) ?_
          · have e44 := hin.is 18 44 (by kernel_rfl) (by decide) (by kernel_rfl) (by kernel_rfl) _ rfl
            clear hin hout
            intro K Q hK
            refine wp_load_mid 52 (.tmp 44) rfl gl (k * 33 + 1) (eval_of_get e44) (bs b).toList _ (wcell_b hP.1 HX.out) Try.underlying52 rfl (by rw [len_bs, HB.out]; exact size_blk) ?_
            exact hK _ _ ⟨Same.refl _, by simp [Vs, is]⟩
          refine allp_mild 0 rfl rfl rfl (fun a x W hout hin hP => ?_) ?_
          · have e29 := hin.is 3 29 (by kernel_rfl) (by decide) (by kernel_rfl) (by kernel_rfl) _ rfl
            have e37 := hin.is 11 37 (by kernel_rfl) (by decide) (by kernel_rfl) (by kernel_rfl) _ rfl
            clear hin hout
            intro K Q hK
            go_simp
            exact hK _ _ ⟨Same.refl _, rfl⟩
          refine allp_wild 0 rfl rfl rfl (fun a x W hout hin hP => ?_) ?_
          · have e46 := hin.is 20 46 (by kernel_rfl) (by decide) (by kernel_rfl) (by kernel_rfl) _ rfl
            have e45 := hin.is 19 45 (by kernel_rfl) (by decide) (by kernel_rfl) (by kernel_rfl) _ rfl
            clear hout
            intro K Q hK
            have HS := stored_sec hP.1 hI.out HB.out
            have HC := hP.2
            refine wp_store_mid 52 (.tmp 46) (.tmp 45) rfl gs (I * 32) (bs b) (eval_of_get e46) (eval_of_get e45) (by rw [size_bs, HB.out]; exact there_sec hP.1 hI.out) (by rw [size_bs, HB.out]; exact size_blk) (one_bs _) ?_
            rw [bs_toList]
            exact hK undef _ ⟨⟨by rw [HK1.out]; exact HS, Chg.setCells (.inl (.inr rfl)) _ _ HC⟩, trivial⟩
          exact all_end (by decide)
        · intro x W hP hV
          clear hV
          obtain ⟨hD, hC⟩ : RefD base W g (.slice (some ⟨gs, 0, none⟩) n cs) (.slice (some ⟨gl, 0, none⟩) m cl) Mk1 ∧ Chg (fun j => j = g ∨ j = gs) w W := hP
          have HD := Lib.hid hD
          have HC := Lib.hid hC
          clear hD hC
          simp only [putL, Act.put, List.setIfInBounds_toArray, List.set_cons_succ, List.set_cons_zero]
          refine wpAnyH_done (by kernel_rfl) ?_ _
          go_wp2_with fail
          go_roundw
          case rel => exact ⟨k + 1, by omega, by omega, by go_num, by rw [← HK2.out]; exact HD.out, HC.out⟩
          case measure => simp [intOf]; omega
      | false =>
        rw [hbit, if_neg (by decide)] at hstep hod
        rw [List.append_nil] at hstep
        have HK2 := Lib.hid hstep
        have cond : ((bd y).tmod 2 == 1) = false := by rw [hod]; rfl
        clear hx hR hC hy hstep hod hbit
        go_wp2_with fail
        exact ⟨⟨k + 1, by omega, by omega, by go_num, by rw [HK2.out]; exact HR.out, HC.out⟩, by simp [intOf]; omega⟩
    · have e1 : keptTo M.l keep k = DiskM.kept M.l keep := keptTo_all _ _ _ (by rw [HM.out, HPL.out]; omega)
      rw [e1] at HR
      have f1 := hR.row.free 1
      have f2 := hR.row.free 2
      have f3 := hR.row.free 3
      have k2 : wr.cell? ⟨g, 2, none⟩ = some (.int .i64 M.f) := hR.row.get rfl
      have k3 : wr.cell? ⟨g, 3, none⟩ = some (.bool M.down) := hR.row.get rfl
      have H9 := Lib.hid HR.out.upped
      have HC9 := Lib.hid (((HC.out.setCell (p := ⟨g, 1, none⟩) (.inl (.inl rfl)) (.slice none 0 0)).setCell (p := ⟨g, 2, none⟩) (.inl (.inl rfl)) (.int .i64 (-1))).setCell (p := ⟨g, 3, none⟩) (.inl (.inl rfl)) (.bool false))
      have hd : k < m → ¬ k < p := fun h1 h2 => hlt ⟨h1, h2⟩
      clear hR hC e1
      by_cases hm : k < m
      · have hp := hd hm
        clear hd hlt
        go_wp2_with fail
        go_end0
        exact ⟨rfl, H9.out, HC9.out.mono fun j hj => .inl (hj.imp id fun e => by rw [e]; rfl)⟩
      · clear hd hlt
        go_wp2_with fail
        go_end0
        exact ⟨rfl, H9.out, HC9.out.mono fun j hj => .inl (hj.imp id fun e => by rw [e]; rfl)⟩
end Go.Proofs.Ytcdcongeogmfkaa

/- The document's Read (and what a sector is). -/
set_option maxRecDepth 4000
namespace Go.Proofs.Ytcdcongeogmfkaa
open Go Go.RowKit
theorem now_step (s : List (List (BitVec 8))) (l : List (Nat × List (BitVec 8))) (k i : Nat) (x : Nat × List (BitVec 8)) (hx : l[k]? = some x) (hi : i < s.length) : (DiskM.put s (l.take (k + 1))).getD i [] = if x.1 = i then x.2 else (DiskM.put s (l.take k)).getD i [] := by
  rw [take_put s l k x hx]
  have hl := DiskM.length_put (l.take k) s
  by_cases h : x.1 = i
  · rw [if_pos h, ← h]
    simp [List.getD_eq_getElem?_getD, hl, show x.1 < s.length by omega]
  · rw [if_neg h]
    simp [List.getD_eq_getElem?_getD, h]
theorem now_len {M : DiskM} (h : M.Ok) (i : Nat) (hi : i < M.s.length) (k : Nat) : ((DiskM.put M.s (M.l.take k)).getD i []).length = 32 := by
  have hl := DiskM.length_put (M.l.take k) M.s
  have hm : (DiskM.put M.s (M.l.take k)).getD i [] ∈ DiskM.put M.s (M.l.take k) := by
    rw [List.getD_eq_getElem?_getD, List.getElem?_eq_getElem (by omega)]; exact List.getElem_mem _
  exact DiskM.put_len _ _ h.s (fun x hx => (h.l x (List.mem_of_mem_take hx)).2) _ hm
def NowRel (w : World) (b : List (BitVec 8)) (wr : World) : Prop := Row wr (w.heap.size + 1) 52 (bs b) ∧ Row wr w.heap.size 52 (bs (blk 0#8)) ∧ Below w.heap.size w wr
theorem sec_at {base : Nat} {w : World} {g gs n cs i : Nat} {vl : Value} {M : DiskM} (h : RefD base w g (.slice (some ⟨gs, 0, none⟩) n cs) vl M) (hi : i < M.s.length) : w.rangeAt gs (i * 32) (bs (M.s.getD i [])).toList := by
  have hs := h.sec
  rw [own_n hs] at hs
  have := own_elem hs (sec_len h.ok.s) (k := i) (c := bytesV (M.s.getD i [])) (by simp [List.getD_eq_getElem?_getD, hi])
  rw [bs_toList]; exact this
set_option maxRecDepth 20000 in
set_option maxHeartbeats 800000 in
theorem refnow_any (base : Nat) (w : World) (g : Nat) (vs vl : Value) (M : DiskM) (i : Nat) (h : RefD base w g vs vl M) (hl : M.l.length ≤ 1000000000) (hi : i < M.s.length) :
    Calls Try.prog 51 #[.pointer (some ⟨g, 0, none⟩), .int .i64 (i : Int)] w fun e w' => e = .returned (.agg (bs (M.now i))) ∧ Below w.heap.size w w' := by
  have H := Lib.hid h
  obtain ⟨gs, n, cs, rfl, hnn⟩ : ∃ gs n cs, vs = .slice (some ⟨gs, 0, none⟩) n cs ∧ M.s.length = n := by
    rcases h.sec.2 with ⟨_, h0⟩ | ⟨gs, cs, _, e, _⟩
    · have := h.ok.lo; omega
    · exact ⟨gs, _, cs, e, rfl⟩
  obtain ⟨Al, m, cl, rfl, hmm⟩ : ∃ Al m cl, vl = .slice Al m cl ∧ M.l.length = m := by
    obtain ⟨A, c, e, _⟩ := own_slice_form h.loo
    exact ⟨A, _, c, e, rfl⟩
  have HN := Lib.hid hnn
  have HM := Lib.hid hmm
  have HI := Lib.hid hi
  have hn := h.ok.hi
  rw [hnn] at hn hi
  rw [hmm] at hl
  have hb2 : ∀ (o1 o2 : Obj), Below w.heap.size w ((w.alloc o1).alloc o2) := fun o1 o2 => ((Below.refl _ _).alloc (Nat.le_refl _) o1).alloc (by simp) o2
  have hz : (#[.int .u8 0, .int .u8 0, .int .u8 0, .int .u8 0, .int .u8 0, .int .u8 0, .int .u8 0, .int .u8 0, .int .u8 0, .int .u8 0, .int .u8 0, .int .u8 0, .int .u8 0, .int .u8 0, .int .u8 0, .int .u8 0, .int .u8 0, .int .u8 0, .int .u8 0, .int .u8 0, .int .u8 0, .int .u8 0, .int .u8 0, .int .u8 0, .int .u8 0, .int .u8 0, .int .u8 0, .int .u8 0, .int .u8 0, .int .u8 0, .int .u8 0, .int .u8 0] : Array Value) = bs (blk 0#8) := by rfl
  have k0 : ∀ o : Obj, (w.alloc o).cell? ⟨g, 0, none⟩ = some (.slice (some ⟨gs, 0, none⟩) n cs) := fun o => (World.cell?_alloc_lt w o ⟨g, 0, none⟩ h.row.lt).trans (h.row.get rfl)
  obtain ⟨D, hD⟩ : ∃ D : Nat → List (BitVec 8), ∀ k, (DiskM.put M.s (M.l.take k)).getD i [] = D k := ⟨_, fun _ => rfl⟩
  have HD := Lib.hid hD
  have r0 := sec_at h HI.out
  have r1 : (w.alloc (.cells (bs (blk 0#8)) 52)).rangeAt gs (i * 32) (bs (D 0)).toList := World.rangeAt_alloc (by rw [← hD 0]; exact r0) _
  have HL : Hid (∀ k, (D k).length = 32) := Lib.hid fun k => by rw [← hD k]; exact now_len h.ok i HI.out k
  have hi0 : (0 : Int) ≤ (i : Int) := by omega
  have hi1 : (i : Int) < (n : Int) := by omega
  clear h hnn hmm r0 hi hD
  go_enter Try.func51, Try.ntmps51
  go_wp2_with (first | (refine wpList_load_mid rfl 52 _ rfl gs (i * 32) rfl (bs (D 0)).toList _ r1 Try.underlying52 rfl (by rw [len_bs, HL.out]; exact size_blk) ?_) | (refine wpList_store_row rfl 52 _ _ rfl (w.heap.size + 1) (bs (D 0)) rfl rfl 52 _ (row2b _ _ _ _) (by rw [size_bs, HL.out]; exact size_blk) (by rw [size_bs, size_bs, HL.out]; rfl) (one_bs _) ?_; rw [setRow_alloc2]))
  clear k0 r1
  go_loopw [6] (fun j wr => ∃ k : Nat, k ≤ m ∧ j = .int .i64 k ∧ NowRel w (D k) wr) (fun j _ => m - (intOf j).toNat)
  case atStart => exact ⟨0, by omega, rfl, row2b _ _ _ _, (Row.fresh _ _ _).alloc _, hb2 _ _⟩
  case round =>
    obtain ⟨k, hk, rfl, rb, rz, hb⟩ := hrel
    have HR := Lib.hid (H.out.keep (F := fun _ => False) (Chg.of_below hb) id (fun _ _ => id) (fun _ _ => id))
    have k1 : wr.cell? ⟨g, 1, none⟩ = some (.slice Al m cl) := HR.out.row.get rfl
    clear hb2 hi1 hi0
    by_cases hlt : k < m
    · obtain ⟨⟨I, b⟩, hx⟩ : ∃ x, M.l[k]? = some x := ⟨_, List.getElem?_eq_getElem (by rw [HM.out]; exact hlt)⟩
      obtain ⟨gl, rfl⟩ : ∃ gl, Al = some ⟨gl, 0, none⟩ := by
        rcases HR.out.loo.2 with ⟨_, h0⟩ | ⟨gl, _, _, e, _⟩
        · rw [HM.out] at h0
          omega
        · injection e with e _ _; exact ⟨gl, e⟩
      have hst := now_step M.s M.l k i (I, b) hx HI.out
      rw [HD.out, HD.out] at hst
      have HST := Lib.hid hst
      have hc := wcell_i HR.out hx
      have hr := wcell_b HR.out hx
      have HB : Hid (b.length = 32) := Lib.hid (HR.out.ok.l (I, b) (List.mem_of_getElem? hx)).2
      have hk0 : (0 : Int) ≤ (k : Int) := by omega
      have hk1 : (k : Int) < (m : Int) := by omega
      clear hst hx
      by_cases hIi : I = i
      · subst hIi
        go_wp2_with (first | (refine wpList_load_mid rfl 52 _ rfl gl (k * 33 + 1) rfl (bs b).toList _ hr Try.underlying52 rfl (by rw [len_bs, HB.out]; exact size_blk) ?_) | (refine wpList_store_row rfl 52 _ _ rfl (w.heap.size + 1) (bs b) rfl rfl 52 _ rb (by rw [size_bs, HB.out]; exact size_blk) (by rw [size_bs, size_bs, HB.out, HL.out]) (one_bs _) ?_))
        exact ⟨⟨k + 1, by omega, by go_num, by rw [HST.out, if_pos rfl]; exact ⟨rb.setRow _, rz.setRow_far (by omega) _, below_setRow hb (by omega) _⟩⟩, by simp [intOf]; omega⟩
      · have hne : ((I : Int) == (i : Int)) = false := beq_eq_false_iff_ne.2 (by omega)
        go_wp2_with fail
        exact ⟨⟨k + 1, by omega, by go_num, by rw [HST.out, if_neg hIi]; exact ⟨rb, rz, hb⟩⟩, by simp [intOf]; omega⟩
    · obtain rfl : k = m := by omega
      have e1 : D k = M.now i := by rw [← HD.out, ← HM.out, List.take_length]; rfl
      have H0 : Hid ((bs (blk 0#8)).size = 32) := Lib.hid (by rw [size_bs]; exact length_blk _)
      have rbr := row_range rb (Below.refl wr.heap.size wr) rb.lt
      go_wp2_with (first | (refine wpList_load_mid rfl 52 _ rfl (w.heap.size + 1) 0 rfl (bs (D k)).toList _ rbr Try.underlying52 rfl (by rw [len_bs, HL.out]; exact size_blk) ?_) | (refine wpList_store_row rfl 52 _ _ rfl w.heap.size (bs (D k)) rfl rfl 52 _ rz (by rw [size_bs, HL.out]; exact size_blk) (by rw [H0.out, size_bs, HL.out]) (one_bs _) ?_))
      rw [← e1]
      exact bodyPost_ret (v := .agg (bs (D k))) (results_cell_row Try.results51 _ _ w.heap.size 52 (bs (D k)) (0, 0) _ rfl (rz.setRow _) Try.underlying52 rfl (by rw [size_bs, HL.out]; exact size_blk)) rfl ⟨rfl, below_setRow hb (Nat.le_refl _) _⟩
def ReadPost (w : World) (M : DiskM) (i : Int) (ea ed : Value) : Ending → World → Prop := fun e w' =>
  e = .returned (.tuple #[.agg (bs (if M.has i && !M.down then M.now i.toNat else blk 0#8)), if M.has i then (if M.down then ed else .int .i64 0) else ea]) ∧ Below w.heap.size w w'
set_option maxRecDepth 20000 in
set_option maxHeartbeats 800000 in
theorem refread_any (base : Nat) (w : World) (g : Nat) (vs vl : Value) (M : DiskM) (i : Int) (h : RefD base w g vs vl M) (hl : M.l.length ≤ 1000000000) :
    Calls Try.prog 38 #[.pointer (some ⟨g, 0, none⟩), .int .i64 i] w (ReadPost w M i (.int .i64 1) (.int .i64 20)) := by
  have hb1 := (Below.refl w.heap.size w).alloc (Nat.le_refl _) (.cells (bs (blk 0#8)) 52)
  have H := Lib.hid (h.below hb1)
  have hz := zeros_blk
  have H0 : Hid ((bs (blk 0#8)).size = 32) := Lib.hid (by rw [size_bs]; exact length_blk _)
  have rz := Row.fresh w 52 (bs (blk 0#8))
  have C1 := refhas_any base _ g vs vl M i H.out
  have k3 : (w.alloc (.cells (bs (blk 0#8)) 52)).cell? ⟨g, 3, none⟩ = some (.bool M.down) := H.out.row.get rfl
  have hgl := h.row.lt
  by_cases hh : M.has i = true
  · rw [hh] at C1
    obtain ⟨n, rfl, hn⟩ : ∃ n : Nat, i = (n : Int) ∧ n < M.s.length := by
      unfold DiskM.has at hh
      simp only [Bool.and_eq_true, decide_eq_true_eq] at hh
      exact ⟨i.toNat, by omega, by omega⟩
    cases hd : M.down with
    | true =>
      have e0 : ReadPost w M n (.int .i64 1) (.int .i64 20) = fun e w' => e = .returned (.tuple #[.agg (bs (blk 0#8)), .int .i64 20]) ∧ Below w.heap.size w w' := by
        funext e w'; unfold ReadPost; rw [hh, hd]; rfl
      rw [e0]
      rw [hd] at k3
      clear h hh e0 hd
      go_enter Try.func38, Try.ntmps38
      go_wp2_with fail
      refine C1.mono ?_
      rintro e w1 ⟨rfl, rfl⟩
      clear C1
      go_wp2_with (first | (refine wpList_store_row rfl 52 _ _ rfl w.heap.size (bs (blk 0#8)) rfl rfl 52 _ rz (by rw [H0.out]; exact size_blk) rfl (one_bs _) ?_))
      exact bodyPost_ret (v := .tuple #[.agg (bs (blk 0#8)), .int .i64 20]) (results_cell_tmp Try.results38 _ _ w.heap.size 52 (bs (blk 0#8)) (0, 0) _ rfl (rz.setRow _) Try.underlying52 rfl (by rw [H0.out]; exact size_blk)) rfl ⟨rfl, below_setRow hb1 (Nat.le_refl _) _⟩
    | false =>
      have e0 : ReadPost w M n (.int .i64 1) (.int .i64 20) = fun e w' => e = .returned (.tuple #[.agg (bs (M.now n)), .int .i64 0]) ∧ Below w.heap.size w w' := by
        funext e w'; unfold ReadPost; rw [hh, hd]; rfl
      rw [e0]
      rw [hd] at k3
      have C2 := refnow_any base _ g vs vl M n H.out hl hn
      have HL : Hid ((M.now n).length = 32) := Lib.hid (by have := now_len h.ok n hn M.l.length; rw [List.take_length] at this; exact this)
      generalize M.now n = D at *
      clear h hh e0 hd
      go_enter Try.func38, Try.ntmps38
      go_wp2_with fail
      refine C1.mono ?_
      rintro e w1 ⟨rfl, rfl⟩
      clear C1
      go_wp2_with fail
      refine C2.mono ?_
      rintro e w1 ⟨rfl, hb2⟩
      have rz2 := rz.call hb2
      have hb12 := hb1.trans (hb2.mono hb1.size)
      clear C2 hb2 rz
      go_wp2_with (first | (refine wpList_store_row rfl 52 _ _ rfl w.heap.size (bs D) rfl rfl 52 _ rz2 (by rw [size_bs, HL.out]; exact size_blk) (by rw [H0.out, size_bs, HL.out]) (one_bs _) ?_))
      exact bodyPost_ret (v := .tuple #[.agg (bs D), .int .i64 0]) (results_cell_tmp Try.results38 _ _ w.heap.size 52 (bs D) (0, 0) _ rfl (rz2.setRow _) Try.underlying52 rfl (by rw [size_bs, HL.out]; exact size_blk)) rfl ⟨rfl, below_setRow hb12 (Nat.le_refl _) _⟩
  · have hh' : M.has i = false := by simpa using hh
    have e0 : ReadPost w M i (.int .i64 1) (.int .i64 20) = fun e w' => e = .returned (.tuple #[.agg (bs (blk 0#8)), .int .i64 1]) ∧ Below w.heap.size w w' := by
      funext e w'; unfold ReadPost; rw [hh']; rfl
    rw [e0]
    rw [hh'] at C1
    clear h hh e0 hh' k3
    go_enter Try.func38, Try.ntmps38
    go_wp2_with fail
    refine C1.mono ?_
    rintro e w1 ⟨rfl, rfl⟩
    clear C1
    go_wp2_with (first | (refine wpList_store_row rfl 52 _ _ rfl w.heap.size (bs (blk 0#8)) rfl rfl 52 _ rz (by rw [H0.out]; exact size_blk) rfl (one_bs _) ?_))
    exact bodyPost_ret (v := .tuple #[.agg (bs (blk 0#8)), .int .i64 1]) (results_cell_tmp Try.results38 _ _ w.heap.size 52 (bs (blk 0#8)) (0, 0) _ rfl (rz.setRow _) Try.underlying52 rfl (by rw [H0.out]; exact size_blk)) rfl ⟨rfl, below_setRow hb1 (Nat.le_refl _) _⟩
end Go.Proofs.Ytcdcongeogmfkaa

/- The document's New. -/
set_option maxRecDepth 4000
namespace Go.Proofs.Ytcdcongeogmfkaa
open Go Go.RowKit
theorem made_blocks (z : Value) (hz : z.cells = bs (blk 0#8)) (n : Nat) : (madeCells z.cells (n * 32)).toList = ((DiskM.new n).s.map bytesV).flatten := by
  have e1 : ∀ j, j < 32 → (bs (blk 0#8))[j]! = Value.int .u8 0 := fun j hj => by
    rw [getElem!_pos _ _ (by rw [size_bs, length_blk]; exact hj)]
    have := get_bs (blk 0#8) j (by rw [length_blk]; exact hj)
    rw [Array.getElem?_eq_getElem (by rw [size_bs, length_blk]; exact hj)] at this
    injection this with this
    rw [this]
    rw [show (blk 0#8).getD j 0 = 0#8 by unfold blk; rw [List.getD_eq_getElem?_getD, List.getElem?_replicate, if_pos hj]; rfl]
    rfl
  have e2 : (madeCells z.cells (n * 32)).toList = List.replicate (n * 32) (Value.int .u8 0) := by
    unfold madeCells
    rw [hz]
    apply List.ext_getElem
    · simp
    · intro i h1 h2
      simp only [Array.toList_map, Array.toList_range, List.getElem_map, List.getElem_range, List.getElem_replicate, size_bs, length_blk]
      exact e1 _ (Nat.mod_lt _ (by decide))
  have e3 : bytesV (blk 0#8) = List.replicate 32 (Value.int .u8 0) := by unfold bytesV blk; rw [List.map_replicate]; rfl
  rw [e2]
  show _ = ((List.replicate n (blk 0#8)).map bytesV).flatten
  rw [List.map_replicate, e3, List.flatten_replicate_replicate]
theorem info_blk : (Try.prog.info? 52).map (fun i => (i.zero, i.size, i.bytes)) = some (some (.agg (bs (blk 0#8))), 32, 32) := by kernel_rfl
def NewPost (base : Nat) (w : World) (n : Int) : Ending → World → Prop := fun e w' =>
  if 1 ≤ n ∧ n ≤ 1024 then ∃ g vs, e = .returned (.tuple #[.pointer (some ⟨g, 0, none⟩), .int .i64 0]) ∧ RefD base w' g vs (.slice none 0 0) (DiskM.new n.toNat) ∧ Below w.heap.size w w' ∧ w.heap.size ≤ g ∧ ∀ k, vs.ownBlock = some k → w.heap.size ≤ k
  else e = .returned (.tuple #[.pointer none, .int .i64 1]) ∧ w = w'
set_option maxHeartbeats 800000 in
theorem refnew_any (base : Nat) (w : World) (n : Int) (hbase : base ≤ w.heap.size) :
    Calls Try.prog 11 #[.int .i64 n] w (NewPost base w n) := by
  by_cases hn : 1 ≤ n ∧ n ≤ 1024
  · have e0 : NewPost base w n = fun e w' => ∃ g vs, e = .returned (.tuple #[.pointer (some ⟨g, 0, none⟩), .int .i64 0]) ∧ RefD base w' g vs (.slice none 0 0) (DiskM.new n.toNat) ∧ Below w.heap.size w w' ∧ w.heap.size ≤ g ∧ ∀ k, vs.ownBlock = some k → w.heap.size ≤ k := by
      funext e w'; unfold NewPost; rw [if_pos hn]
    rw [e0]
    obtain ⟨m, rfl⟩ : ∃ m : Nat, n = (m : Int) := ⟨n.toNat, by omega⟩
    obtain ⟨h1, h2⟩ := hn
    obtain ⟨i1, hi1, hz1, hz2, hz3⟩ := info_parts info_blk
    have hB : Hid (i1.bytes * m ≤ 281474976710656) := Lib.hid (by rw [hz3]; omega)
    clear e0
    go_enter Try.func11, Try.ntmps11
    go_wp2_with (first | (refine wpList_make_full w rfl (.tmp 10) (.tmp 10) 58 rfl w.heap.size 52 i1 _ 32 Try.underlying58 hi1 hz1 hz2 .i64 .i64 (m : Int) (m : Int) m rfl rfl rfl rfl hB.out (by unfold maxLen; omega) (Nat.le_refl _) ?_; intro w1 own1 hg1))
    go_ret2
    have hb1 : Below w.heap.size w w1 := below_of_grown hg1 (fun g e => by cases e) (Nat.le_refl _)
    have hcs : (madeCells (Value.agg (bs (blk 0#8))).cells (m * 32)).toList = ((DiskM.new m).s.map bytesV).flatten := made_blocks _ rfl m
    rw [hcs] at own1
    have own2 := (own_mono own1 hbase).alloc (.cells #[.slice (some ⟨w.heap.size, 0, none⟩) m m, .slice none 0 0, .int .i64 (-1), .bool false] 61)
    have hl : (DiskM.new m).s.length = m := by simp [DiskM.new]
    refine ⟨w1.heap.size, .slice (some ⟨w.heap.size, 0, none⟩) m m, rfl, ⟨Nat.le_trans hbase hb1.size, Row.fresh _ _ _, by rw [Int.toNat_natCast, hl]; exact own2, World.ownsRow_nil _ _ _ _, by rw [Int.toNat_natCast]; exact DiskM.Ok.new (by omega) (by omega)⟩, hb1.alloc hb1.size _, hb1.size, fun k hk => ?_⟩
    injection hk with hk
    exact Nat.le_of_eq hk
  · have e0 : NewPost base w n = fun e w' => e = .returned (.tuple #[.pointer none, .int .i64 1]) ∧ w = w' := by
      funext e w'; unfold NewPost; rw [if_neg hn]
    rw [e0]
    clear e0
    by_cases h1 : n < 1
    · clear hn
      go_enter Try.func11, Try.ntmps11
      go_wp2_with fail
      go_ret2
      exact ⟨rfl, rfl⟩
    · have h2 : 1024 < n := by omega
      clear hn
      go_enter Try.func11, Try.ntmps11
      go_wp2_with fail
      go_ret2
      exact ⟨rfl, rfl⟩
end Go.Proofs.Ytcdcongeogmfkaa

/- What a statement needs to know of the program's disk and of the document's: one account of both. -/
set_option maxRecDepth 4000
namespace Go.Proofs.Ytcdcongeogmfkaa
open Go Go.RowKit
namespace DiskM
def wRes (M : DiskM) (i : Int) (b : List (BitVec 8)) : Int × DiskM := if M.has i then (if M.stuck then (20, M.fell) else (0, M.wrote i.toNat b)) else (1, M)
def fRes (M : DiskM) : Int × DiskM := if M.stuck then (20, M.fell) else (0, M.flushed)
def rRes (M : DiskM) (i : Int) : List (BitVec 8) × Int := if M.has i then (if M.down then (blk 0#8, 20) else (M.now i.toNat, 0)) else (blk 0#8, 1)
def fused (M : DiskM) (n : Int) : DiskM := { M with f := n }
end DiskM
/- a call that works on the thing at p: what it answers, what the thing is then; nothing else is changed -/
def Acts (A : Nat → World → Value → DiskM → (Nat → Prop) → Prop) (base : Nat) (w : World) (p : Value) (F : Nat → Prop) (M' : DiskM) (r : Value) : Ending → World → Prop := fun e w' => e = .returned r ∧ ∃ F', A base w' p M' F' ∧ Chg F w w' ∧ ∀ k, F' k → F k ∨ w.heap.size ≤ k
def Asks (w : World) (r : Value) : Ending → World → Prop := fun e w' => e = .returned r ∧ Below w.heap.size w w'
def Makes (A : Nat → World → Value → DiskM → (Nat → Prop) → Prop) (base : Nat) (w : World) (n : Int) : Ending → World → Prop := fun e w' =>
  if 1 ≤ n ∧ n ≤ 1024 then ∃ g F, e = .returned (.tuple #[.pointer (some ⟨g, 0, none⟩), .int .i64 0]) ∧ A base w' (.pointer (some ⟨g, 0, none⟩)) (DiskM.new n.toNat) F ∧ Below w.heap.size w w' ∧ ∀ k, F k → w.heap.size ≤ k
  else e = .returned (.tuple #[.pointer none, .int .i64 1]) ∧ Below w.heap.size w w'
theorem makes_yes (A : Nat → World → Value → DiskM → (Nat → Prop) → Prop) (base : Nat) (w : World) (n : Int) (h : 1 ≤ n ∧ n ≤ 1024) : Makes A base w n = fun e w' => ∃ g F, e = .returned (.tuple #[.pointer (some ⟨g, 0, none⟩), .int .i64 0]) ∧ A base w' (.pointer (some ⟨g, 0, none⟩)) (DiskM.new n.toNat) F ∧ Below w.heap.size w w' ∧ ∀ k, F k → w.heap.size ≤ k := by
  funext e w'; unfold Makes; rw [if_pos h]
def nilPtr : Value := .pointer none
def few : Nat := 1000000000
structure DiskOps where
  A : Nat → World → Value → DiskM → (Nat → Prop) → Prop
  ok : ∀ {base w p M F}, A base w p M F → M.Ok
  lt : ∀ {base w p M F}, A base w p M F → ∀ k, F k → base ≤ k ∧ k < w.heap.size
  ptr : ∀ {base w p M F}, A base w p M F → ∃ g, p = .pointer (some ⟨g, 0, none⟩)
  keep : ∀ {base w w' p M F G}, A base w p M F → Chg G w w' → (∀ k, F k → ¬ G k) → A base w' p M F
  new : ∀ (base : Nat) (w : World) (n : Int), base ≤ w.heap.size → (-9223372036854775808 ≤ n ∧ n < 9223372036854775808) → Calls Try.prog 10 #[.int .i64 n] w (Makes A base w n)
  write : ∀ (base : Nat) (w : World) (p : Value) (M : DiskM) (F : Nat → Prop) (i : Int) (b : List (BitVec 8)), A base w p M F → b.length = 32 → M.l.length ≤ few → (-9223372036854775808 ≤ i ∧ i < 9223372036854775808) → Calls Try.prog 21 #[p, .int .i64 i, .agg (bs b)] w (Acts A base w p F (M.wRes i b).2 (.int .i64 (M.wRes i b).1))
  read : ∀ (base : Nat) (w : World) (p : Value) (M : DiskM) (F : Nat → Prop) (i : Int), A base w p M F → M.l.length ≤ few → (-9223372036854775808 ≤ i ∧ i < 9223372036854775808) → Calls Try.prog 26 #[p, .int .i64 i] w (Asks w (.tuple #[.agg (bs (M.rRes i).1), .int .i64 (M.rRes i).2]))
  flush : ∀ (base : Nat) (w : World) (p : Value) (M : DiskM) (F : Nat → Prop), A base w p M F → M.l.length ≤ few → Calls Try.prog 28 #[p] w (Acts A base w p F M.fRes.2 (.int .i64 M.fRes.1))
  up : ∀ (base : Nat) (w : World) (p : Value) (M : DiskM) (F : Nat → Prop) (v : Value) (keep : List (BitVec 8)), A base w p M F → M.l.length ≤ few → Slice w v keep → keep.length ≤ few → (∀ k, v.ownBlock = some k → ¬ F k) → Calls Try.prog 18 #[p, v] w (Acts A base w p F (M.upped keep) (.tuple #[]))
  fuse : ∀ (base : Nat) (w : World) (p : Value) (M : DiskM) (F : Nat → Prop) (n : Int), A base w p M F → (-9223372036854775808 ≤ n ∧ n < 9223372036854775808) → Calls Try.prog 23 #[p, .int .i64 n] w (Acts A base w p F (M.fused n) (.tuple #[]))
  loose : ∀ (base : Nat) (w : World) (p : Value) (M : DiskM) (F : Nat → Prop), A base w p M F → M.l.length ≤ few → Calls Try.prog 29 #[p] w (Asks w (.int .i64 (M.l.length : Int)))
  len : ∀ (base : Nat) (w : World) (p : Value) (M : DiskM) (F : Nat → Prop), A base w p M F → Calls Try.prog 46 #[p] w (Asks w (.int .i64 (M.s.length : Int)))
  writeNil : ∀ (w : World) (i : Int) (b : List (BitVec 8)), b.length = 32 → (-9223372036854775808 ≤ i ∧ i < 9223372036854775808) → Calls Try.prog 21 #[nilPtr, .int .i64 i, .agg (bs b)] w (Asks w (.int .i64 1))
  readNil : ∀ (w : World) (i : Int), (-9223372036854775808 ≤ i ∧ i < 9223372036854775808) → Calls Try.prog 26 #[nilPtr, .int .i64 i] w (Asks w (.tuple #[.agg (bs (blk 0#8)), .int .i64 1]))
  flushNil : ∀ (w : World), Calls Try.prog 28 #[nilPtr] w (Asks w (.int .i64 1))
  upNil : ∀ (w : World) (v : Value) (keep : List (BitVec 8)), Slice w v keep → keep.length ≤ few → Calls Try.prog 18 #[nilPtr, v] w (Asks w (.tuple #[]))
  fuseNil : ∀ (w : World) (n : Int), (-9223372036854775808 ≤ n ∧ n < 9223372036854775808) → Calls Try.prog 23 #[nilPtr, .int .i64 n] w (Asks w (.tuple #[]))
  looseNil : ∀ (w : World), Calls Try.prog 29 #[nilPtr] w (Asks w (.int .i64 0))
  lenNil : ∀ (w : World), Calls Try.prog 46 #[nilPtr] w (Asks w (.int .i64 0))
/- the document's -/
def RefAt : Nat → World → Value → DiskM → (Nat → Prop) → Prop := fun base w p M F => ∃ g vs vl, p = .pointer (some ⟨g, 0, none⟩) ∧ RefD base w g vs vl M ∧ F = fun k => k = g ∨ vs.ownBlock = some k ∨ vl.ownBlock = some k
theorem ref_lt {base : Nat} {w : World} {p : Value} {M : DiskM} {F : Nat → Prop} (h : RefAt base w p M F) : ∀ k, F k → base ≤ k ∧ k < w.heap.size := by
  obtain ⟨g, vs, vl, rfl, h, rfl⟩ := h
  rintro k (rfl | hk | hk)
  · exact ⟨h.hb, h.row.lt⟩
  · exact h.sec.lt k hk
  · exact h.loo.lt k hk
theorem ref_keep {base : Nat} {w w' : World} {p : Value} {M : DiskM} {F G : Nat → Prop} (h : RefAt base w p M F) (c : Chg G w w') (hF : ∀ k, F k → ¬ G k) : RefAt base w' p M F := by
  obtain ⟨g, vs, vl, rfl, h, rfl⟩ := h
  exact ⟨g, vs, vl, rfl, h.keep c (hF g (.inl rfl)) (fun k hk => hF k (.inr (.inl hk))) (fun k hk => hF k (.inr (.inr hk))), rfl⟩
theorem ref_ok {base : Nat} {w : World} {p : Value} {M : DiskM} {F : Nat → Prop} (h : RefAt base w p M F) : M.Ok := by
  obtain ⟨g, vs, vl, rfl, h, rfl⟩ := h; exact h.ok
theorem ref_new (base : Nat) (w : World) (n : Int) (hb : base ≤ w.heap.size) : Calls Try.prog 11 #[.int .i64 n] w (Makes RefAt base w n) := by
  refine (refnew_any base w n hb).mono ?_
  intro e w' h
  unfold NewPost at h
  unfold Makes
  by_cases hn : 1 ≤ n ∧ n ≤ 1024
  · rw [if_pos hn] at h ⊢
    obtain ⟨g, vs, rfl, h1, h2, h3, h4⟩ := h
    refine ⟨g, _, rfl, ⟨g, vs, _, rfl, h1, rfl⟩, h2, ?_⟩
    rintro k (rfl | hk | hk)
    · exact h3
    · exact h4 k hk
    · cases hk
  · rw [if_neg hn] at h ⊢
    obtain ⟨rfl, rfl⟩ := h
    exact ⟨rfl, Below.refl _ _⟩
theorem ref_write (base : Nat) (w : World) (p : Value) (M : DiskM) (F : Nat → Prop) (i : Int) (b : List (BitVec 8)) (h : RefAt base w p M F) (hb : b.length = 32) (hl : M.l.length ≤ few) : Calls Try.prog 22 #[p, .int .i64 i, .agg (bs b)] w (Acts RefAt base w p F (M.wRes i b).2 (.int .i64 (M.wRes i b).1)) := by
  obtain ⟨g, vs, vl, rfl, h, rfl⟩ := h
  refine (refwrite_any base w g vs vl M i b h hb hl).mono ?_
  intro e w' hp
  unfold WrotePost at hp
  unfold Acts DiskM.wRes
  by_cases hh : M.has i = true
  · rw [if_pos hh] at hp ⊢
    by_cases hs : M.stuck = true
    · rw [if_pos hs] at hp ⊢
      obtain ⟨rfl, h1, h2⟩ := hp
      exact ⟨rfl, _, ⟨g, vs, vl, rfl, h1, rfl⟩, h2.mono fun k hk => .inl (.inl hk), fun k hk => .inl hk⟩
    · rw [if_neg hs] at hp ⊢
      obtain ⟨rfl, vl', h1, h2, h3⟩ := hp
      refine ⟨rfl, _, ⟨g, vs, vl', rfl, h1, rfl⟩, h2.mono fun k hk => .inl (hk.imp id .inr), ?_⟩
      rintro k (rfl | hk | hk)
      · exact .inl (.inl rfl)
      · exact .inl (.inr (.inl hk))
      · exact (h3 k hk).imp (fun h => .inr (.inr h)) id
  · rw [if_neg hh] at hp ⊢
    obtain ⟨rfl, h1⟩ := hp
    exact ⟨rfl, _, ⟨g, vs, vl, rfl, h.below h1, rfl⟩, Chg.of_below h1, fun k hk => .inl hk⟩
theorem ref_read (base : Nat) (w : World) (p : Value) (M : DiskM) (F : Nat → Prop) (i : Int) (h : RefAt base w p M F) (hl : M.l.length ≤ few) : Calls Try.prog 38 #[p, .int .i64 i] w (Asks w (.tuple #[.agg (bs (M.rRes i).1), .int .i64 (M.rRes i).2])) := by
  obtain ⟨g, vs, vl, rfl, h, rfl⟩ := h
  refine (refread_any base w g vs vl M i h hl).mono ?_
  rintro e w' ⟨rfl, h1⟩
  refine ⟨?_, h1⟩
  unfold DiskM.rRes
  cases M.has i <;> cases M.down <;> rfl
theorem ref_flush (base : Nat) (w : World) (p : Value) (M : DiskM) (F : Nat → Prop) (h : RefAt base w p M F) (hl : M.l.length ≤ few) : Calls Try.prog 35 #[p] w (Acts RefAt base w p F M.fRes.2 (.int .i64 M.fRes.1)) := by
  obtain ⟨g, vs, vl, rfl, h, rfl⟩ := h
  refine (refflush_any base w g vs vl M h hl).mono ?_
  intro e w' hp
  unfold FlushPost at hp
  unfold Acts DiskM.fRes
  by_cases hs : M.stuck = true
  · rw [if_pos hs] at hp ⊢
    obtain ⟨rfl, h1, h2⟩ := hp
    exact ⟨rfl, _, ⟨g, vs, vl, rfl, h1, rfl⟩, h2.mono fun k hk => .inl (.inl hk), fun k hk => .inl hk⟩
  · rw [if_neg hs] at hp ⊢
    obtain ⟨rfl, h1, h2⟩ := hp
    refine ⟨rfl, _, ⟨g, vs, _, rfl, h1, rfl⟩, h2.mono fun k hk => .inl (hk.imp id .inl), ?_⟩
    rintro k (rfl | hk | hk)
    · exact .inl (.inl rfl)
    · exact .inl (.inr (.inl hk))
    · cases hk
theorem ref_up (base : Nat) (w : World) (p : Value) (M : DiskM) (F : Nat → Prop) (v : Value) (keep : List (BitVec 8)) (h : RefAt base w p M F) (hl : M.l.length ≤ few) (hv : Slice w v keep) (hkl : keep.length ≤ few) (hF : keep ≠ [] → ∀ k, v.ownBlock = some k → ¬ F k) : Calls Try.prog 19 #[p, v] w (Acts RefAt base w p F (M.upped keep) (.tuple #[])) := by
  obtain ⟨g, vs, vl, rfl, h, rfl⟩ := h
  refine (refup_any base w g vs vl M v keep h hl hv hkl ?_).mono ?_
  · rintro hne b o ⟨n, c, rfl⟩
    have := hF hne b rfl
    exact ⟨fun e => this (.inl e), fun e => this (.inr (.inl e))⟩
  · rintro e w' ⟨rfl, h1, h2⟩
    refine ⟨rfl, _, ⟨g, vs, _, rfl, h1, rfl⟩, h2.mono fun k hk => .inl (hk.imp id .inl), ?_⟩
    rintro k (rfl | hk | hk)
    · exact .inl (.inl rfl)
    · exact .inl (.inr (.inl hk))
    · cases hk
theorem now_length {M : DiskM} (h : M.Ok) {i : Nat} (hi : i < M.s.length) : (M.now i).length = 32 := by
  have := now_len h i hi M.l.length; rw [List.take_length] at this; exact this
theorem wRes_l (M : DiskM) (i : Int) (b : List (BitVec 8)) {k : Nat} (h : M.l.length ≤ k) : (M.wRes i b).2.l.length ≤ k + 1 := by
  unfold DiskM.wRes
  split
  · split
    · exact Nat.le_succ_of_le h
    · show (M.l ++ [_]).length ≤ k + 1; rw [List.length_append]; exact Nat.add_le_add h (Nat.le_refl 1)
  · exact Nat.le_succ_of_le h
theorem wRes_s (M : DiskM) (i : Int) (b : List (BitVec 8)) : (M.wRes i b).2.s = M.s := by
  unfold DiskM.wRes
  split
  · split <;> rfl
  · rfl
theorem DiskOps.read' (D : DiskOps) {base : Nat} {w : World} {p : Value} {M : DiskM} {F : Nat → Prop} (i : Int) (h : D.A base w p M F) (hl : M.l.length ≤ few) (hi : -9223372036854775808 ≤ i ∧ i < 9223372036854775808) (b : List (BitVec 8)) (r : Int) (hM : M.rRes i = (b, r)) : Calls Try.prog 26 #[p, .int .i64 i] w (Asks w (.tuple #[.agg (bs b), .int .i64 r])) := by
  have := D.read base w p M F i h hl hi
  rw [hM] at this; exact this
theorem DiskOps.still (D : DiskOps) {base : Nat} {w w' : World} {p : Value} {M : DiskM} {F : Nat → Prop} (h : D.A base w p M F) (hb : Below w.heap.size w w') : D.A base w' p M F := D.keep h (Chg.of_below (F := fun _ => False) hb) fun _ _ => id
theorem acts_below {base : Nat} {w w' : World} {F : Nat → Prop} (hF : ∀ k, F k → base ≤ k ∧ k < w.heap.size) (hc : Chg F w w') (hB : base ≤ w.heap.size) : Below base w w' := hc.below (fun k hk => (hF k hk).1) hB
end Go.Proofs.Ytcdcongeogmfkaa

/- A disk that calls change, seen from one world on; blocks of memory that come to a list of blocks, or go. No function of the program is named here. -/
set_option maxRecDepth 4000
namespace Go.Proofs.Ytcdcongeogmfkaa
open Go Go.RowKit
def DSt (D : DiskOps) (base : Nat) (w : World) (p : Value) (F : Nat → Prop) (M : DiskM) (w' : World) : Prop := ∃ F', D.A base w' p M F' ∧ Chg F w w' ∧ ∀ k, F' k → F k ∨ w.heap.size ≤ k
section
variable {D : DiskOps} {base : Nat} {w w1 w2 : World} {p : Value} {F : Nat → Prop} {M M' : DiskM} {r : Value} {e : Ending}
theorem DSt.start (h : D.A base w p M F) : DSt D base w p F M w := ⟨F, h, Chg.refl F w, fun _ h => .inl h⟩
theorem DSt.same (h : DSt D base w p F M w1) (k : Below w1.heap.size w1 w2) : DSt D base w p F M w2 := by
  obtain ⟨F1, h1, c1, s1⟩ := h
  exact ⟨F1, D.still h1 k, c1.trans (F' := fun _ => False) (Chg.of_below k) (fun _ h => h.elim), s1⟩
theorem DSt.drew (h : DSt D base w p F M w1) : DSt D base w p F M w1.drew := h.same (Below.refl _ _).drew
theorem DSt.size (h : DSt D base w p F M w1) : w.heap.size ≤ w1.heap.size := by obtain ⟨_, _, c, _⟩ := h; exact c.size
theorem DSt.chg (h : DSt D base w p F M w1) : Chg F w w1 := by obtain ⟨_, _, c, _⟩ := h; exact c
theorem DSt.acts (h : DSt D base w p F M w1) (hr : e = .returned r) : Acts D.A base w p F M r e w1 := ⟨hr, h⟩
theorem DSt.ok (h : DSt D base w p F M w1) : M.Ok := by obtain ⟨_, h1, _, _⟩ := h; exact D.ok h1
/- the next call: what it needs, and what it leaves -/
theorem DSt.next (h : DSt D base w p F M w1) : ∃ F1, D.A base w1 p M F1 ∧ (∀ k, F1 k → F k ∨ w.heap.size ≤ k) ∧ (∀ k, F1 k → k < w1.heap.size) ∧ ∀ M' w2, DSt D base w1 p F1 M' w2 → DSt D base w p F M' w2 := by
  obtain ⟨F1, h1, c1, s1⟩ := h
  refine ⟨F1, h1, s1, fun k hk => (D.lt h1 k hk).2, ?_⟩
  rintro M' w2 ⟨F2, h2, c2, s2⟩
  exact ⟨F2, h2, c1.trans c2 s1, fun k hk => (s2 k hk).elim (s1 k) (fun hle => .inr (Nat.le_trans c1.size hle))⟩
theorem DSt.rebase (hb : Below w.heap.size w w1) (h : DSt D base w1 p F M w2) : DSt D base w p F M w2 := by
  obtain ⟨F1, h1, c1, s1⟩ := h
  exact ⟨F1, h1, (Chg.of_below (F := F) hb).trans c1 (fun _ h => .inl h), fun k hk => (s1 k hk).elim .inl (fun hle => .inr (Nat.le_trans hb.size hle))⟩
/- a block that is none of the disk's -/
theorem DSt.row (h : DSt D base w p F M w1) {g : Nat} {t : TypeId} {cs : Array Value} (hr : Row w g t cs) (hg : ¬ F g) : Row w1 g t cs := hr.chg h.chg hg
theorem puts_chg {w w' : World} {v : Value} {l : List (Int × List (BitVec 8))} {F : Nat → Prop} (h : PutsAt w v l) (c : Chg F w w') (hA : l ≠ [] → ∀ k, v.ownBlock = some k → ¬ F k) : PutsAt w' v l := by
  obtain ⟨A, n, rfl, h2, h3, h4⟩ := h
  refine ⟨A, n, rfl, h2, h3, fun hne => ?_⟩
  obtain ⟨b, o, rfl, h6, h7⟩ := h4 hne
  refine ⟨b, o, rfl, Nat.lt_of_lt_of_le h6 c.size, fun k x hx j u hu => ?_⟩
  have := h7 k x hx j u hu
  rw [← this]
  unfold World.cell?
  rw [c.block b h6 (hA hne b rfl)]
end
section
variable {w0 w w' : World} {F : Nat → Prop} {R S : List Blk}
theorem St.left (h : St w0 F (R ++ S) w) : St w0 F R w := by
  have at_ : ∀ (k : Nat) (r : Blk), R[k]? = some r → (R ++ S)[k]? = some r := fun k r hk => by
    rw [List.getElem?_append_left (List.getElem?_eq_some_iff.1 hk).1]; exact hk
  exact ⟨h.chg, fun k r hk => h.rows k r (at_ k r hk), fun j k r s hne hj hk => h.apart j k r s hne (at_ j r hj) (at_ k s hk), fun k r hk => h.own k r (at_ k r hk)⟩
theorem St.add (h : St w0 F R w) (hb : Below w.heap.size w w') {g : Nat} {t : TypeId} {cs : Array Value} (hr : Row w' g t cs) (hg : w.heap.size ≤ g) : St w0 F (R ++ [⟨g, t, cs⟩]) w' := by
  have hs := h.same hb
  have at_ : ∀ (j : Nat) (s : Blk), (R ++ [(⟨g, t, cs⟩ : Blk)])[j]? = some s → (j < R.length ∧ R[j]? = some s) ∨ (j = R.length ∧ s = ⟨g, t, cs⟩) := fun j s hj => by
    by_cases e : j < R.length
    · rw [List.getElem?_append_left e] at hj; exact .inl ⟨e, hj⟩
    · rw [List.getElem?_append_right (by omega)] at hj
      have e2 : j - R.length = 0 := by
        rcases Nat.eq_zero_or_pos (j - R.length) with h0 | h0
        · exact h0
        · rw [List.getElem?_eq_none (by simp; omega)] at hj; cases hj
      rw [e2] at hj
      exact .inr ⟨by omega, (Option.some.inj hj).symm⟩
  refine ⟨hs.chg, fun j s hj => ?_, fun i j s u hij hi hj => ?_, fun j s hj => ?_⟩
  · rcases at_ j s hj with ⟨_, hk⟩ | ⟨_, rfl⟩
    · exact hs.rows j s hk
    · exact hr
  · rcases at_ i s hi with ⟨_, hk⟩ | ⟨e1, rfl⟩ <;> rcases at_ j u hj with ⟨_, hu⟩ | ⟨e2, rfl⟩
    · exact hs.apart _ _ _ _ hij hk hu
    · have := (h.rows i s hk).lt; show s.g ≠ g; omega
    · have := (h.rows j u hu).lt; show g ≠ u.g; omega
    · omega
  · rcases at_ j s hj with ⟨_, hk⟩ | ⟨_, rfl⟩
    · exact hs.own j s hk
    · exact .inr (Nat.le_trans h.chg.size hg)
end
end Go.Proofs.Ytcdcongeogmfkaa

/- Puts in one block of the call's own, written at one place; blocks that come to a list of blocks. No function of the program is named here. -/
set_option maxRecDepth 4000
namespace Go.Proofs.Ytcdcongeogmfkaa
open Go Go.RowKit
def pcs (l : List (Int × List (BitVec 8))) : Array Value := (l.map pcell).flatten.toArray
theorem size_pcs {l : List (Int × List (BitVec 8))} (h : ∀ x ∈ l, x.2.length = 32) : (pcs l).size = l.length * 33 := by unfold pcs; rw [List.size_toArray]; exact len_puts h
theorem pcs_get {l : List (Int × List (BitVec 8))} (h : ∀ x ∈ l, x.2.length = 32) {k : Nat} {D : Int} {q : List (BitVec 8)} (hk : l[k]? = some (D, q)) (j : Nat) (hj : j < 33) : (pcs l)[k * 33 + j]? = (pcell (D, q))[j]? := by
  unfold pcs
  rw [List.getElem?_toArray]
  exact flat_get (sz := 33) (l.map pcell) (fun c hc => by
    obtain ⟨y, hy, rfl⟩ := List.mem_map.1 hc
    exact len_pcell (h y hy)) k j (pcell (D, q)) (by simp [hk]) hj
theorem spl_self {α : Type} (L : List α) (o : Nat) (vs : List α) (h : (L.drop o).take vs.length = vs) : spl L o vs = L := by
  unfold spl
  conv => lhs; rw [← h]
  rw [h, ← List.drop_drop]
  conv => rhs; rw [← List.take_append_drop o L, ← List.take_append_drop vs.length (L.drop o), h]
  rw [List.append_assoc]
theorem pcs_slab {l : List (Int × List (BitVec 8))} (h : ∀ x ∈ l, x.2.length = 32) {k : Nat} {D : Int} {q : List (BitVec 8)} (hk : l[k]? = some (D, q)) : ((pcs l).toList.drop (k * 33 + 1)).take (bytesV q).length = bytesV q := by
  have hq : q.length = 32 := h _ (List.mem_of_getElem? hk)
  have hkl : k < l.length := (List.getElem?_eq_some_iff.1 hk).1
  have hs := size_pcs h
  apply List.ext_getElem?
  intro i
  rw [len_bytesV, hq]
  by_cases hi : i < 32
  · rw [List.getElem?_take_of_lt hi, List.getElem?_drop, Array.getElem?_toList, show k * 33 + 1 + i = k * 33 + (1 + i) by omega, pcs_get h hk (1 + i) (by omega), Nat.add_comm 1 i]; rfl
  · rw [List.getElem?_eq_none (by rw [List.length_take]; omega), List.getElem?_eq_none (by rw [len_bytesV]; omega)]
theorem pcs_whole {l : List (Int × List (BitVec 8))} (h : ∀ x ∈ l, x.2.length = 32) {k : Nat} (hk : k < l.length) (E : Int) (r : List (BitVec 8)) (hr : r.length = 32) : (spl (pcs l).toList (k * 33) (pcell (E, r))).toArray = pcs (l.set k (E, r)) := by
  unfold pcs
  rw [flat_spl (sz := 33) (l.map pcell) (fun c hc => by
    obtain ⟨y, hy, rfl⟩ := List.mem_map.1 hc
    exact len_pcell (h y hy)) k (pcell (E, r)) (by simpa using hk) (len_pcell hr), List.map_set]
theorem pcs_at {l : List (Int × List (BitVec 8))} (h : ∀ x ∈ l, x.2.length = 32) {k : Nat} {D : Int} {q : List (BitVec 8)} (hk : l[k]? = some (D, q)) (E : Int) : (pcs l).setIfInBounds (k * 33) (.int .i64 E) = pcs (l.set k (E, q)) := by
  have hq : q.length = 32 := h _ (List.mem_of_getElem? hk)
  have hkl : k < l.length := (List.getElem?_eq_some_iff.1 hk).1
  have hs := size_pcs h
  rw [← pcs_whole h hkl E q hq]
  have hlt : k * 33 < (pcs l).toList.length := by rw [Array.length_toList, hs]; omega
  apply Array.ext'
  rw [Array.toList_setIfInBounds]
  show (pcs l).toList.set (k * 33) (.int .i64 E) = spl (pcs l).toList (k * 33) (Value.int .i64 E :: bytesV q)
  rw [← spl_cons _ _ _ _ (by show k * 33 + ((bytesV q).length + 1) ≤ _; rw [len_bytesV, hq, Array.length_toList, hs]; omega)]
  refine (spl_self _ _ _ ?_).symm
  rw [List.drop_set_of_lt (by omega)]
  exact pcs_slab h hk
theorem pcs_data {l : List (Int × List (BitVec 8))} (h : ∀ x ∈ l, x.2.length = 32) {k : Nat} {D : Int} {q : List (BitVec 8)} (hk : l[k]? = some (D, q)) (r : List (BitVec 8)) (hr : r.length = 32) : (spl (pcs l).toList (k * 33 + 1) (bytesV r)).toArray = pcs (l.set k (D, r)) := by
  have hkl : k < l.length := (List.getElem?_eq_some_iff.1 hk).1
  have hs := size_pcs h
  rw [← pcs_whole h hkl D r hr]
  have hlt : k * 33 < (pcs l).toList.length := by rw [Array.length_toList, hs]; omega
  show _ = (spl (pcs l).toList (k * 33) (Value.int .i64 D :: bytesV r)).toArray
  rw [← spl_cons _ _ _ _ (by show k * 33 + ((bytesV r).length + 1) ≤ _; rw [len_bytesV, hr, Array.length_toList, hs]; omega)]
  congr 2
  apply List.ext_getElem?
  intro i
  by_cases e : i = k * 33
  · subst e
    rw [List.getElem?_set_self hlt, Array.getElem?_toList]
    have := pcs_get h hk 0 (by decide)
    rw [Nat.add_zero] at this
    rw [this]; rfl
  · rw [List.getElem?_set_ne (fun h => e h.symm)]
theorem puts_pcs {w : World} {g c : Nat} {t : TypeId} {l : List (Int × List (BitVec 8))} (h : Row w g t (pcs l)) (hc : l.length ≤ c) (hl : ∀ x ∈ l, x.2.length = 32 ∧ -9223372036854775808 ≤ x.1 ∧ x.1 < 9223372036854775808) : PutsAt w (.slice (some ⟨g, 0, none⟩) l.length c) l := puts_row h hc hl
theorem made_puts (n : Nat) (h : n ≤ 5) : madeCells zput0 (n * 33) = pcs (List.replicate n (0, zer 32)) := by
  rcases n with _ | _ | _ | _ | _ | _ | n
  · kernel_rfl
  · kernel_rfl
  · kernel_rfl
  · kernel_rfl
  · kernel_rfl
  · kernel_rfl
  · omega
end Go.Proofs.Ytcdcongeogmfkaa

/- The program's own disk: what it is in memory; Len, has, goesThrough. -/
set_option maxRecDepth 4000
namespace Go.Proofs.Ytcdcongeogmfkaa
open Go Go.RowKit
structure p_RefD (base : Nat) (w : World) (g : Nat) (vs vl : Value) (M : DiskM) : Prop where
  hb : base ≤ g
  row : Row w g 80 #[vs, vl, .int .i64 M.f, .bool M.down]
  sec : w.ownsRow base 52 32 vs M.s.length (M.s.map bytesV).flatten
  loo : w.ownsRow base 70 33 vl M.l.length (M.l.map wcell).flatten
  ok : M.Ok
theorem p_RefD.next {base : Nat} {w w' : World} {g : Nat} {vs vl : Value} {M M' : DiskM} (h : p_RefD base w g vs vl M) (hs : M'.s = M.s) (hl : M'.l = M.l) (hok : M'.Ok) (r : Row w' g 80 #[vs, vl, .int .i64 M'.f, .bool M'.down]) (c : Chg (fun k => k = g) w w') : p_RefD base w' g vs vl M' :=
  ⟨h.hb, r, by rw [hs]; exact own_chg h.sec c (own_apart h.sec h.row (by decide)), by rw [hl]; exact own_chg h.loo c (own_apart h.loo h.row (by decide)), hok⟩
theorem p_RefD.keep {F : Nat → Prop} {base : Nat} {w w' : World} {g : Nat} {vs vl : Value} {M : DiskM} (h : p_RefD base w g vs vl M) (c : Chg F w w') (hg : ¬ F g) (hs : ∀ k, vs.ownBlock = some k → ¬ F k) (hl : ∀ k, vl.ownBlock = some k → ¬ F k) : p_RefD base w' g vs vl M :=
  ⟨h.hb, h.row.chg c hg, own_chg h.sec c hs, own_chg h.loo c hl, h.ok⟩
theorem p_RefD.below {base : Nat} {w w' : World} {g : Nat} {vs vl : Value} {M : DiskM} (h : p_RefD base w g vs vl M) (c : Below w.heap.size w w') : p_RefD base w' g vs vl M :=
  h.keep (F := fun _ => False) (Chg.of_below c) id (fun _ _ => id) (fun _ _ => id)
set_option maxHeartbeats 400000 in
theorem plen_any (base : Nat) (w : World) (g : Nat) (vs vl : Value) (M : DiskM) (h : p_RefD base w g vs vl M) :
    Calls Try.prog 46 #[.pointer (some ⟨g, 0, none⟩)] w fun e w' => e = .returned (.int .i64 (M.s.length : Int)) ∧ w = w' := by
  have k0 := h.row.get (i := 0) rfl
  obtain ⟨A, c, rfl, _⟩ := own_slice_form h.sec
  generalize M.s.length = n at *
  clear h
  go_enter Try.func46, Try.ntmps46
  go_wp2_with fail
  go_ret
  exact ⟨rfl, rfl⟩
set_option maxHeartbeats 400000 in
theorem plen_nil (w : World) :
    Calls Try.prog 46 #[.pointer none] w fun e w' => e = .returned (.int .i64 0) ∧ w = w' := by
  go_enter Try.func46, Try.ntmps46
  go_wp2_with fail
  go_ret
  exact ⟨rfl, rfl⟩
set_option maxHeartbeats 400000 in
theorem phas_raw (w : World) (p : Value) (n : Nat) (i : Int) (C : Calls Try.prog 46 #[p] w fun e w' => e = .returned (.int .i64 (n : Int)) ∧ w = w') :
    Calls Try.prog 42 #[p, .int .i64 i] w fun e w' => e = .returned (.bool (decide (0 ≤ i) && decide (i < (n : Int)))) ∧ w = w' := by
  by_cases h0 : 0 ≤ i
  · have hd : decide (0 ≤ i) = true := decide_eq_true h0
    rw [hd, Bool.true_and]
    go_enter Try.func42, Try.ntmps42
    go_wp2_with fail
    refine C.mono ?_
    rintro e w1 ⟨rfl, rfl⟩
    go_wp2_with fail
    go_ret
    exact ⟨rfl, rfl⟩
  · have hd : decide (0 ≤ i) = false := decide_eq_false h0
    rw [hd, Bool.false_and]
    clear C
    go_enter Try.func42, Try.ntmps42
    go_wp2_with fail
    go_ret
    exact ⟨rfl, rfl⟩
theorem p_refhas_any (base : Nat) (w : World) (g : Nat) (vs vl : Value) (M : DiskM) (i : Int) (h : p_RefD base w g vs vl M) :
    Calls Try.prog 42 #[.pointer (some ⟨g, 0, none⟩), .int .i64 i] w fun e w' => e = .returned (.bool (M.has i)) ∧ w = w' :=
  phas_raw w _ M.s.length i (plen_any base w g vs vl M h)
theorem phas_nil (w : World) (i : Int) :
    Calls Try.prog 42 #[.pointer none, .int .i64 i] w fun e w' => e = .returned (.bool false) ∧ w = w' := by
  have C := phas_raw w _ 0 i (plen_nil w)
  rw [show (decide (0 ≤ i) && decide (i < ((0 : Nat) : Int))) = false by by_cases h : 0 ≤ i <;> simp [h]] at C
  exact C
def p_ThruPost (w : World) (g : Nat) (vs vl : Value) (b : Bool) (f : Int) (down : Bool) : Ending → World → Prop := fun e w' => e = .returned (.bool b) ∧ Row w' g 80 #[vs, vl, .int .i64 f, .bool down] ∧ Chg (fun k => k = g) w w'
set_option maxHeartbeats 400000 in
theorem p_refthru_raw (w : World) (g : Nat) (vs vl : Value) (f : Int) (down : Bool) (h : Row w g 80 #[vs, vl, .int .i64 f, .bool down]) (hf : -9223372036854775808 ≤ f ∧ f < 9223372036854775808) :
    Calls Try.prog 43 #[.pointer (some ⟨g, 0, none⟩)] w (p_ThruPost w g vs vl (!(down || f == 0)) (if down || f == 0 then f else if 0 < f then f - 1 else f) (down || f == 0)) := by
  have k2 : w.cell? ⟨g, 2, none⟩ = some (.int .i64 f) := h.get rfl
  have k3 : w.cell? ⟨g, 3, none⟩ = some (.bool down) := h.get rfl
  have f2 := h.free 2
  have f3 := h.free 3
  have R := Lib.hid h
  clear h
  have R3 : Hid (Row (w.setCell ⟨g, 3, none⟩ (.bool true)) g 80 #[vs, vl, .int .i64 f, .bool true]) := Lib.hid (R.out.put 3 (.bool true))
  have R2 : Hid (Row (w.setCell ⟨g, 2, none⟩ (.int .i64 (f - 1))) g 80 #[vs, vl, .int .i64 (f - 1), .bool down]) := Lib.hid (R.out.put 2 (.int .i64 (f - 1)))
  have C3 : Hid (Chg (fun k => k = g) w (w.setCell ⟨g, 3, none⟩ (.bool true))) := Lib.hid (Chg.one w g 3 _)
  have C2 : Hid (Chg (fun k => k = g) w (w.setCell ⟨g, 2, none⟩ (.int .i64 (f - 1)))) := Lib.hid (Chg.one w g 2 _)
  by_cases h0 : f = 0
  · subst h0
    have e : (down || ((0 : Int) == 0)) = true := by cases down <;> rfl
    rw [e, if_pos rfl]
    have k4 := R3.out.get (i := 3) rfl
    clear e
    go_enter Try.func43, Try.ntmps43
    go_wp2_with fail
    go_ret
    exact ⟨rfl, R3.out, C3.out⟩
  · have hz : (f == 0) = false := beq_eq_false_iff_ne.2 h0
    rw [hz]
    clear h0
    cases down with
    | true =>
      rw [Bool.true_or, if_pos rfl]
      go_enter Try.func43, Try.ntmps43
      go_wp2_with fail
      go_ret
      exact ⟨rfl, R.out, Chg.refl _ _⟩
    | false =>
      rw [Bool.false_or, if_neg (by decide)]
      by_cases hp : 0 < f
      · rw [if_pos hp]
        have hd : decide (0 < f) = true := decide_eq_true hp
        go_enter Try.func43, Try.ntmps43
        go_wp2_with fail
        go_ret
        exact ⟨rfl, R2.out, C2.out⟩
      · rw [if_neg hp]
        have hd : decide (0 < f) = false := decide_eq_false hp
        go_enter Try.func43, Try.ntmps43
        go_wp2_with fail
        go_ret
        exact ⟨rfl, R.out, Chg.refl _ _⟩
end Go.Proofs.Ytcdcongeogmfkaa

/- The program's Write. -/
set_option maxRecDepth 4000
namespace Go.Proofs.Ytcdcongeogmfkaa
open Go Go.RowKit
theorem p_info_write : (Try.prog.info? 70).map (fun i => (i.zero, i.size, i.bytes)) = some (some (.agg (wcell (0, List.replicate 32 0#8)).toArray), 33, 40) := by kernel_rfl
theorem p_info_write2 : (Try.prog.info? 70).map (fun i => (i.zero, i.size)) = some (some (.agg (wcell (0, List.replicate 32 0#8)).toArray), 33) := by kernel_rfl
theorem p_places_write : placesOf Try.prog 70 = some (33, [(0, 1), (1, 32)]) := by kernel_rfl
theorem p_f0_stays {base g n0 : Nat} {vs vl : Value} {M : DiskM} {b : List (BitVec 8)} {w W W' : World} (h : p_RefD base W g vs vl M ∧ Row W n0 52 (bs b) ∧ n0 < W.heap.size ∧ Chg (fun k => k = g) w W) (k : Same W W') : p_RefD base W' g vs vl M ∧ Row W' n0 52 (bs b) ∧ n0 < W'.heap.size ∧ Chg (fun k => k = g) w W' :=
  ⟨h.1.below k, h.2.1.call k, Nat.lt_of_lt_of_le h.2.2.1 k.size, h.2.2.2.trans (Chg.of_below (F := fun _ => False) k) fun _ h => h.elim⟩
/- behind the append, ahead of the store -/
structure p_GrewD (base : Nat) (w W : World) (g : Nat) (vs vl v3 : Value) (n : Nat) (b : List (BitVec 8)) (M : DiskM) : Prop where
  hb : base ≤ g
  row : Row W g 80 #[vs, vl, .int .i64 M.burnt.f, .bool M.burnt.down]
  sec : W.ownsRow base 52 32 vs M.s.length (M.s.map bytesV).flatten
  loo : W.ownsRow base 70 33 v3 (M.wrote n b).l.length ((M.wrote n b).l.map wcell).flatten
  ok : M.burnt.Ok
  chg : Chg (fun k => k = g ∨ vl.ownBlock = some k) w W
  grow : ∀ k, v3.ownBlock = some k → vl.ownBlock = some k ∨ w.heap.size ≤ k
theorem p_GrewD.k1 {base : Nat} {w W : World} {g : Nat} {vs vl v3 : Value} {n : Nat} {b : List (BitVec 8)} {M : DiskM} (h : p_GrewD base w W g vs vl v3 n b M) : W.cell? ⟨g, 1, none⟩ = some vl := h.row.get rfl
theorem p_GrewD.f1 {base : Nat} {w W : World} {g : Nat} {vs vl v3 : Value} {n : Nat} {b : List (BitVec 8)} {M : DiskM} (h : p_GrewD base w W g vs vl v3 n b M) : W.frozen? ⟨g, 1, none⟩ = false := h.row.free 1
theorem p_grewD_stays {base : Nat} {w W W' : World} {g : Nat} {vs vl v3 : Value} {n : Nat} {b : List (BitVec 8)} {M : DiskM} (h : p_GrewD base w W g vs vl v3 n b M) (k : Same W W') : p_GrewD base w W' g vs vl v3 n b M :=
  ⟨h.hb, h.row.call k, owns_call h.sec k, owns_call h.loo k, h.ok, h.chg.trans (Chg.of_below (F := fun _ => False) k) (fun _ h => h.elim), h.grow⟩
theorem p_grewD_intro {base : Nat} {w W w3 : World} {g n : Nat} {vs vl v3 : Value} {M : DiskM} {b : List (BitVec 8)} (h : p_RefD base W g vs vl M.burnt) (own : w3.ownsRow base 70 33 v3 (M.burnt.l.length + 1) ((M.burnt.l.map wcell).flatten ++ wcell (n, b))) (hg : W.grownBy w3 vl.ownBlock) (hw : Where W vl v3) (c : Chg (fun k => k = g) w W) : p_GrewD base w w3 g vs vl v3 n b M := by
  have hap := own_apart h.loo h.row (by decide)
  have hap2 := own_apart2 h.sec h.loo (by decide)
  refine ⟨h.hb, (hg.block g h.row.lt (fun e => hap g e.symm rfl)).trans h.row, h.sec.kept hg (by
    cases hv : vs.ownBlock with
    | none => exact .inl rfl
    | some k => exact .inr fun e => hap2 k hv e.symm), ?_, h.ok, (c.mono (fun k h => .inl (.inl h))).grown hg (fun k h => .inl (.inr h)), fun k hk => (hw.cases hk).imp id (Nat.le_trans c.size)⟩
  have e : ((M.wrote n b).l.map wcell).flatten = (M.burnt.l.map wcell).flatten ++ wcell (n, b) := by simp [DiskM.wrote, DiskM.burnt]
  have e2 : (M.wrote n b).l.length = M.burnt.l.length + 1 := by simp [DiskM.wrote, DiskM.burnt]
  rw [e, e2]
  exact own
def p_WroteD (base : Nat) (w W : World) (g : Nat) (vs vl : Value) (n : Nat) (b : List (BitVec 8)) (M : DiskM) : Prop :=
  ∃ v3, p_RefD base W g vs v3 (M.wrote n b) ∧ Chg (fun k => k = g ∨ vl.ownBlock = some k) w W ∧ ∀ k, v3.ownBlock = some k → vl.ownBlock = some k ∨ w.heap.size ≤ k
theorem p_wroteD_stays {base : Nat} {w W W' : World} {g : Nat} {vs vl : Value} {n : Nat} {b : List (BitVec 8)} {M : DiskM} (h : p_WroteD base w W g vs vl n b M) (k : Same W W') : p_WroteD base w W' g vs vl n b M := by
  obtain ⟨v3, h1, h2, h3⟩ := h
  exact ⟨v3, h1.below k, h2.trans (Chg.of_below (F := fun _ => False) k) (fun _ h => h.elim), h3⟩
theorem p_GrewD.wrote {base : Nat} {w W : World} {g : Nat} {vs vl v3 : Value} {n : Nat} {b : List (BitVec 8)} {M : DiskM} (h : p_GrewD base w W g vs vl v3 n b M) (hn : n < M.s.length) (hb : b.length = 32) : p_WroteD base w (W.setCell ⟨g, 1, none⟩ v3) g vs vl n b M := by
  have c := Chg.one W g 1 v3
  refine ⟨v3, ⟨h.hb, h.row.put 1 v3, own_chg h.sec c (own_apart h.sec h.row (by decide)), own_chg h.loo c (own_apart h.loo h.row (by decide)), ⟨h.ok.lo, h.ok.hi, h.ok.s, fun x hx => ?_, h.ok.f⟩⟩, h.chg.setCell (p := ⟨g, 1, none⟩) (.inl (.inl rfl)) v3, h.grow⟩
  rcases List.mem_append.1 hx with h1 | h1
  · exact h.ok.l x h1
  · rw [List.mem_singleton.1 h1]; exact ⟨hn, hb⟩
def p_WrotePost (base : Nat) (w : World) (g : Nat) (vs vl : Value) (M : DiskM) (i : Int) (b : List (BitVec 8)) : Ending → World → Prop := fun e w' =>
  if M.has i then
    if M.stuck then e = .returned (.int .i64 20) ∧ p_RefD base w' g vs vl M.fell ∧ Chg (fun k => k = g) w w'
    else e = .returned (.int .i64 0) ∧ ∃ vl', p_RefD base w' g vs vl' (M.wrote i.toNat b) ∧ Chg (fun k => k = g ∨ vl.ownBlock = some k) w w' ∧ ∀ k, vl'.ownBlock = some k → vl.ownBlock = some k ∨ w.heap.size ≤ k
  else e = .returned (.int .i64 1) ∧ Below w.heap.size w w'
set_option maxRecDepth 20000 in
set_option maxHeartbeats 800000 in
theorem p_refwrite_any (base : Nat) (w : World) (g : Nat) (vs vl : Value) (M : DiskM) (i : Int) (b : List (BitVec 8)) (h : p_RefD base w g vs vl M) (hb : b.length = 32) (hl : M.l.length ≤ 1000000000) :
    Calls Try.prog 21 #[.pointer (some ⟨g, 0, none⟩), .int .i64 i, .agg (bs b)] w (p_WrotePost base w g vs vl M i b) := by
  have hb1 := (Below.refl w.heap.size w).alloc (Nat.le_refl _) (.cells (bs b) 52)
  have H1 := Lib.hid (h.below hb1)
  by_cases hh : M.has i = true
  · by_cases hs : M.stuck = true
    · have e0 : p_WrotePost base w g vs vl M i b = fun e w' => e = .returned (.int .i64 20) ∧ p_RefD base w' g vs vl M.fell ∧ Chg (fun k => k = g) w w' := by
        funext e w'; unfold p_WrotePost; rw [if_pos hh, if_pos hs]
      rw [e0]
      have C1 := p_refhas_any base _ g vs vl M i H1.out
      have C2 := p_refthru_raw _ g vs vl M.f M.down H1.out.row H1.out.ok.f
      rw [show (M.down || M.f == 0) = true from hs] at C2
      rw [hh] at C1
      go_enter Try.func21, Try.ntmps21
      go_wp2_with fail
      refine C1.mono ?_
      rintro e w1 ⟨rfl, rfl⟩
      go_wp2_with fail
      refine C2.mono ?_
      rintro e w2 ⟨rfl, r2, c2⟩
      have H2 := Lib.hid (H1.out.next (M' := M.fell) rfl rfl H1.out.ok.fell r2 c2)
      have HC := Lib.hid ((Chg.of_below (F := fun k => k = g) hb1).trans c2 fun k hk => .inl hk)
      clear C1 C2 r2 c2
      go_wp2_with fail
      go_ret
      exact ⟨rfl, H2.out, HC.out⟩
    · have hs' : M.stuck = false := by simpa using hs
      have e0 : p_WrotePost base w g vs vl M i b = fun e w' => e = .returned (.int .i64 0) ∧ ∃ vl', p_RefD base w' g vs vl' (M.wrote i.toNat b) ∧ Chg (fun k => k = g ∨ vl.ownBlock = some k) w w' ∧ ∀ k, vl'.ownBlock = some k → vl.ownBlock = some k ∨ w.heap.size ≤ k := by
        funext e w'; unfold p_WrotePost; rw [if_pos hh, if_neg hs]
      rw [e0]
      have C1 := p_refhas_any base _ g vs vl M i H1.out
      have C2 := p_refthru_raw _ g vs vl M.f M.down H1.out.row H1.out.ok.f
      rw [show (M.down || M.f == 0) = false from hs'] at C2
      rw [hh] at C1
      obtain ⟨n, rfl, hn⟩ : ∃ n : Nat, i = (n : Int) ∧ n < M.s.length := by
        unfold DiskM.has at hh
        simp only [Bool.and_eq_true, decide_eq_true_eq] at hh
        exact ⟨i.toNat, by omega, by omega⟩
      have HB := Lib.hid hb
      have HDN : Hid (M.down = false) := Lib.hid (by unfold DiskM.stuck at hs'; exact (Bool.or_eq_false_iff.1 hs').1)
      clear e0 hh hs hs'
      go_enter Try.func21, Try.ntmps21
      go_wp2_with fail
      refine C1.mono ?_
      rintro e w1 ⟨rfl, rfl⟩
      go_wp2_with fail
      refine C2.mono ?_
      rintro e w2 ⟨rfl, r2, c2⟩
      have r2' : Row w2 g 80 #[vs, vl, .int .i64 M.burnt.f, .bool M.burnt.down] := by rw [show M.burnt.down = false from HDN.out]; exact r2
      have H2 := Lib.hid (H1.out.next (M' := M.burnt) rfl rfl H1.out.ok.burnt r2' c2)
      have HC := Lib.hid ((Chg.of_below (F := fun k => k = g) hb1).trans c2 fun k hk => .inl hk)
      have RB := Lib.hid ((Row.fresh w 52 (bs b)).chg c2 (by have := h.row.lt; omega))
      clear C1 C2 r2 r2' c2 h hb H1
      go_wp2_with fail
      have hF0 : Wl [fun W => p_RefD base W g vs vl M.burnt ∧ Row W w.heap.size 52 (bs b) ∧ w.heap.size < W.heap.size ∧ Chg (fun k => k = g) w W, fun _ => True, fun W => p_WroteD base w W g vs vl n b M] 0 w2.drew := ⟨H2.out.below (Below.refl _ _).drew, RB.out, RB.out.lt, HC.out.drew⟩
      refine wp_region_phs [is (.pointer (some ⟨g, 0, none⟩)), is (.pointer (some ⟨g, 0, none⟩)), is (.pointer (some ⟨g, 0, none⟩)), is (.pointer (some ⟨g, 1, none⟩)), is (vl), is (.int .i64 (n : Int)), is (.agg (bs b)), is (.agg (wcell (n, b)).toArray), (elit 70 (wcell (n, b))), (fun v W => p_GrewD base w W g vs vl v n b M), is (.pointer (some ⟨g, 0, none⟩)), is (.pointer (some ⟨g, 1, none⟩)), anyV] [true, true, true, true, true, true, true, true, false, false, true, true, true] [(fun W => p_RefD base W g vs vl M.burnt ∧ Row W w.heap.size 52 (bs b) ∧ w.heap.size < W.heap.size ∧ Chg (fun k => k = g) w W), (fun _ => True), (fun W => p_WroteD base w W g vs vl n b M)] [false, false, false, false, false, false, false, false, false, true, false, false, true] [none, some 0, some 0, some 0, some 0, some 0, some 0, some 0, some 0, some 0, some 1, some 1, some 1] [some 14, some 15, some 16, some 17, some 18, some 19, some 20, some 21, some 22, some 23, some 24, some 25, none] 13 2 (fun _ => true) rfl rfl (by kernel_rfl) (by kernel_rfl) (by kernel_rfl) (by kernel_rfl) ?_ ?_ ?_ ?_ ?_ ?_
      · repeat first | exact wok_nil | refine wok_cons (by first | exact fun _ _ h k => p_f0_stays h k | exact fun _ _ h _ => h | exact fun _ _ h k => p_wroteD_stays h k) ?_
      · repeat first | exact vok_nil | refine vok_rig (by first | exact fun _ _ _ h => h) ?_ | refine vok_soft (by first | exact fun _ _ _ h _ => h | exact fun _ _ _ h k => elit_stays h k | exact fun _ _ _ h k => p_grewD_stays h k) ?_
      · exact hF0
      · repeat first | exact all_end (by decide) | refine all_cons (by first | exact rfl | exact ⟨rfl, fun _ _ h => Or.inl h⟩ | exact ⟨rfl, fun _ _ h => Or.inr ⟨h, rfl⟩⟩) ?_
      · refine allp_pure rfl rfl (fun a x W hout hin => ?_) ?_
        · have e0 : a.tmps[0]? = some (.pointer (some ⟨g, 0, none⟩)) := (hout 0 (by kernel_rfl)).trans rfl
          exact does_move rfl e0 ⟨rfl, rfl⟩
        refine allp_mild 0 rfl rfl rfl (fun a x W hout hin hP => ?_) ?_
        · have e0 : a.tmps[0]? = some (.pointer (some ⟨g, 0, none⟩)) := (hout 0 (by kernel_rfl)).trans rfl
          exact does_move rfl e0 ⟨Same.refl _, rfl⟩
        refine allp_mild 0 rfl rfl rfl (fun a x W hout hin hP => ?_) ?_
        · have e15 := hin.is 1 15 (by kernel_rfl) (by decide) (by kernel_rfl) (by kernel_rfl) _ rfl
          clear hin hout
          intro K Q hK
          go_simp
          exact hK _ _ ⟨Same.refl _, rfl⟩
        refine allp_mild 0 rfl rfl rfl (fun a x W hout hin hP => ?_) ?_
        · have e16 := hin.is 2 16 (by kernel_rfl) (by decide) (by kernel_rfl) (by kernel_rfl) _ rfl
          clear hin hout
          intro K Q hK
          go_simp
          exact hK _ _ ⟨Same.refl _, rfl⟩
        refine allp_mild 0 rfl rfl rfl (fun a x W hout hin hP => ?_) ?_
        · have e17 := hin.is 3 17 (by kernel_rfl) (by decide) (by kernel_rfl) (by kernel_rfl) _ rfl
          have hc : W.cell? ⟨g, 1, none⟩ = some vl := hP.1.row.get rfl
          clear hP
          clear hin hout
          intro K Q hK
          go_simp
          exact hK _ _ ⟨Same.refl _, rfl⟩
        refine allp_mild 0 rfl rfl rfl (fun a x W hout hin hP => ?_) ?_
        · have e1 : a.tmps[1]? = some (.int .i64 (n : Int)) := (hout 1 (by kernel_rfl)).trans rfl
          exact does_move rfl e1 ⟨Same.refl _, rfl⟩
        refine allp_mild 0 rfl rfl rfl (fun a x W hout hin hP => ?_) ?_
        · have e5 : a.tmps[5]? = some (.pointer (some ⟨w.heap.size, 0, none⟩)) := (hout 5 (by kernel_rfl)).trans rfl
          clear hin hout
          intro K Q hK
          refine wp_load_mid 52 (.tmp 5) rfl w.heap.size 0 (eval_of_get e5) (bs b).toList _ (row_range hP.2.1 (Below.refl W.heap.size W) hP.2.1.lt) Try.underlying52 rfl (by rw [len_bs, HB.out]; exact size_blk) ?_
          exact hK _ _ ⟨Same.refl _, by simp [Vs, is]⟩
        refine allp_mild 0 rfl rfl rfl (fun a x W hout hin hP => ?_) ?_
        · have e19 := hin.is 5 19 (by kernel_rfl) (by decide) (by kernel_rfl) (by kernel_rfl) _ rfl
          have e20 := hin.is 6 20 (by kernel_rfl) (by decide) (by kernel_rfl) (by kernel_rfl) _ rfl
          clear hin hout
          intro K Q hK
          refine wp_buildStruct 70 _ rfl p_places_write [.int .i64 (n : Int), .agg (bs b)] ?_ (by rw [show ([Value.int .i64 (n : Int), .agg (bs b)].map (·.cells.size)) = [1, 32] by simp [Value.cells, size_bs, HB.out]]; rfl) (by simp [Value.cells, size_bs, HB.out]) ?_
          · simp only [List.map_toArray, List.map_cons, List.map_nil, eval_of_get e19, eval_of_get e20]; rfl
          · exact hK _ _ ⟨Same.refl _, wcell_eq n b⟩
        refine allp_mild 0 rfl rfl rfl (fun a x W hout hin hP => ?_) ?_
        · have e21 := hin.is 7 21 (by kernel_rfl) (by decide) (by kernel_rfl) (by kernel_rfl) _ rfl
          clear hin hout hP
          intro K Q hK
          refine wp_buildOne 34 70 (.tmp 21) rfl (wcell (n, b)).toArray _ 33 (eval_of_get e21) Try.underlying34 p_info_write2 (by rw [List.size_toArray, length_wcell _ HB.out]) (by decide) (by decide) ?_
          exact hK _ _ ⟨Same.alloc _ _, elit_new W _ _⟩
        refine allp_wild 0 rfl rfl rfl (fun a x W hout hin hP => ?_) ?_
        · have e18 := hin.is 4 18 (by kernel_rfl) (by decide) (by kernel_rfl) (by kernel_rfl) _ rfl
          obtain ⟨v22, e22, hv22⟩ := hin.get 8 22 (by kernel_rfl) (by decide) (by kernel_rfl) (.inr ⟨rfl, by kernel_rfl⟩)
          clear hout
          intro K Q hK
          obtain ⟨g8, fr8, rfl, hg8⟩ := hv22
          obtain ⟨H3, _, _, HC⟩ := hP
          refine wp_append_where (.tmp 18) (.tmp 22) 34 rfl base 70 33 40 _ Try.underlying34 p_info_write rfl (by decide) vl _ _ (eval_of_get e18) H3.loo ⟨g8, 0, none⟩ 1 1 (wcell (n, b)) (eval_of_get e22) (by rw [length_wcell _ HB.out]) (fun j u hu => by rw [Addr.add_mid, Nat.zero_add, cell_of_row W g8 j _ _ _ hg8]; simpa using hu) (one_wcell _) (by simp only [DiskM.burnt]; unfold maxLen; omega) (by simp only [DiskM.burnt]; omega) (Nat.le_trans H3.hb (Nat.le_of_lt H3.row.lt)) ?_
          intro v3 w3 own3 hg3 hw3
          exact hK _ _ ⟨trivial, p_grewD_intro H3 own3 hg3 hw3 HC⟩
        refine allp_mild 1 rfl rfl rfl (fun a x W hout hin hP => ?_) ?_
        · have e14 := hin.is 0 14 (by kernel_rfl) (by decide) (by kernel_rfl) (by kernel_rfl) _ rfl
          clear hin hout
          intro K Q hK
          go_simp
          exact hK _ _ ⟨Same.refl _, rfl⟩
        refine allp_mild 1 rfl rfl rfl (fun a x W hout hin hP => ?_) ?_
        · have e24 := hin.is 10 24 (by kernel_rfl) (by decide) (by kernel_rfl) (by kernel_rfl) _ rfl
          clear hin hout
          intro K Q hK
          go_simp
          exact hK _ _ ⟨Same.refl _, rfl⟩
        refine allp_wild 1 rfl rfl rfl (fun a x W hout hin hP => ?_) ?_
        · have e25 := hin.is 11 25 (by kernel_rfl) (by decide) (by kernel_rfl) (by kernel_rfl) _ rfl
          obtain ⟨v23, e23, hv23⟩ := hin.get 9 23 (by kernel_rfl) (by decide) (by kernel_rfl) (.inr ⟨rfl, by kernel_rfl⟩)
          obtain ⟨A3, c3, rfl, _⟩ := own_slice_form hv23.loo
          have k1 := hv23.k1
          have f1 := hv23.f1
          have HW := Lib.hid (hv23.wrote hn HB.out)
          clear hv23
          clear hin hout
          intro K Q hK
          go_simp
          exact hK undef _ ⟨HW.out, trivial⟩
        exact all_end (by decide)
      · intro x W hP hV
        clear hV
        have HP := Lib.hid hP
        clear hP
        simp only [putL, Act.put, List.setIfInBounds_toArray, List.set_cons_succ, List.set_cons_zero]
        refine wpAnyH_done (by kernel_rfl) ?_ _
        go_wp2_with fail
        go_ret
        obtain ⟨v3, HF, HC2, HE⟩ : p_WroteD base w W g vs vl n b M := HP.out
        rw [Int.toNat_natCast]
        exact ⟨rfl, v3, HF, HC2, HE⟩
  · have hh' : M.has i = false := by simpa using hh
    have e0 : p_WrotePost base w g vs vl M i b = fun e w' => e = .returned (.int .i64 1) ∧ Below w.heap.size w w' := by
      funext e w'; unfold p_WrotePost; rw [if_neg hh]
    rw [e0]
    have C1 := p_refhas_any base _ g vs vl M i H1.out
    rw [hh'] at C1
    go_enter Try.func21, Try.ntmps21
    go_wp2_with fail
    refine C1.mono ?_
    rintro e w1 ⟨rfl, rfl⟩
    go_wp2_with fail
    go_ret
    exact ⟨rfl, hb1⟩
end Go.Proofs.Ytcdcongeogmfkaa

/- The program's Flush. -/
set_option maxRecDepth 4000
namespace Go.Proofs.Ytcdcongeogmfkaa
open Go Go.RowKit
theorem zeros_put : (#[.int .i64 0, .int .u8 0, .int .u8 0, .int .u8 0, .int .u8 0, .int .u8 0, .int .u8 0, .int .u8 0, .int .u8 0, .int .u8 0, .int .u8 0, .int .u8 0, .int .u8 0, .int .u8 0, .int .u8 0, .int .u8 0, .int .u8 0, .int .u8 0, .int .u8 0, .int .u8 0, .int .u8 0, .int .u8 0, .int .u8 0, .int .u8 0, .int .u8 0, .int .u8 0, .int .u8 0, .int .u8 0, .int .u8 0, .int .u8 0, .int .u8 0, .int .u8 0, .int .u8 0] : Array Value) = (wcell (0, blk 0#8)).toArray := by rfl
theorem size_put : (Try.prog.info? 70).map (·.size) = some 33 := by kernel_rfl
theorem put_b {W : World} {g : Nat} {t : TypeId} {x : Nat × List (BitVec 8)} (h : Row W g t (wcell x).toArray) : W.rangeAt g 1 (bs x.2).toList := fun j v hv => by
  rw [Nat.add_comm]
  exact h.get (i := j + 1) (by rw [bs_toList] at hv; simpa [wcell] using hv)
theorem len_wcell {x : Nat × List (BitVec 8)} (h : x.2.length = 32) : (wcell x).length = 33 := by rw [length_wcell x h]
theorem size_wcell {x : Nat × List (BitVec 8)} (h : x.2.length = 32) : (wcell x).toArray.size = 33 := by rw [List.size_toArray, len_wcell h]
theorem all_wcell (x : Nat × List (BitVec 8)) : (wcell x).toArray.all (·.oneCell') = true := all_oneCell_toArray (one_wcell x)
theorem p_f0s {base g gs gp : Nat} {vs vl : Value} {M : DiskM} {w W W' : World} {t : TypeId} {cs : Array Value} (h : p_RefD base W g vs vl M ∧ Chg (fun j => j = g ∨ j = gs) w W ∧ Row W gp t cs) (k : Same W W') : p_RefD base W' g vs vl M ∧ Chg (fun j => j = g ∨ j = gs) w W' ∧ Row W' gp t cs :=
  ⟨h.1.below k, h.2.1.trans (Chg.of_below (F := fun _ => False) k) (fun _ h => h.elim), h.2.2.call k⟩
theorem p_RefD.loo_elem {base : Nat} {w : World} {g gl m cl k : Nat} {vs : Value} {M : DiskM} {x : Nat × List (BitVec 8)} (h : p_RefD base w g vs (.slice (some ⟨gl, 0, none⟩) m cl) M) (hx : M.l[k]? = some x) : w.rangeAt gl (k * 33) (wcell x) := by
  have hl := h.loo
  rw [own_n hl] at hl
  exact own_elem hl (wc_len fun x hx => (h.ok.l x hx).2) (by simp [hx])
theorem p_wcell_i {base : Nat} {w : World} {g gl m cl k : Nat} {vs : Value} {M : DiskM} {x : Nat × List (BitVec 8)} (h : p_RefD base w g vs (.slice (some ⟨gl, 0, none⟩) m cl) M) (hx : M.l[k]? = some x) : w.cell? ⟨gl, k * 33, none⟩ = some (.int .i64 (x.1 : Int)) := by
  have := h.loo_elem hx 0 _ rfl
  simpa using this
theorem p_wcell_b {base : Nat} {w : World} {g gl m cl k : Nat} {vs : Value} {M : DiskM} {x : Nat × List (BitVec 8)} (h : p_RefD base w g vs (.slice (some ⟨gl, 0, none⟩) m cl) M) (hx : M.l[k]? = some x) : w.rangeAt gl (k * 33 + 1) (bs x.2).toList := fun j v hv => by
  have := h.loo_elem hx (j + 1) v (by rw [bs_toList] at hv; simpa [wcell] using hv)
  rw [show k * 33 + 1 + j = k * 33 + (j + 1) by omega]; exact this
theorem p_there_sec {base : Nat} {w : World} {g gs n cs I : Nat} {vl : Value} {M : DiskM} (h : p_RefD base w g (.slice (some ⟨gs, 0, none⟩) n cs) vl M) (hI : I < M.s.length) : w.there gs (I * 32) 32 := by
  have hn : M.s.length = n := by rcases h.sec.2 with ⟨e, _⟩ | ⟨_, _, _, e, _⟩; cases e; injection e with _ e _; exact e.symm
  have hs := h.sec
  rw [hn] at hs
  exact own_there hs (sec_len h.ok.s) (by simpa using hI)
theorem p_stored_sec {base : Nat} {w : World} {g gs n cs I : Nat} {vl : Value} {M : DiskM} {b : List (BitVec 8)} (h : p_RefD base w g (.slice (some ⟨gs, 0, none⟩) n cs) vl M) (hI : I < M.s.length) (hb : b.length = 32) : p_RefD base (w.setCells gs (I * 32) (bytesV b)) g (.slice (some ⟨gs, 0, none⟩) n cs) vl (M.at_ (M.s.set I b)) := by
  have hn : M.s.length = n := by rcases h.sec.2 with ⟨e, _⟩ | ⟨_, _, _, e, _⟩; cases e; injection e with _ e _; exact e.symm
  have hs := h.sec
  rw [hn] at hs
  have h1 := own_store hs (sec_len h.ok.s) (k := I) (by simpa using hI) (c := bytesV b) (by rw [len_bytesV, hb])
  have c : Chg (fun j => j = gs) w (w.setCells gs (I * 32) (bytesV b)) := Chg.setCells (F := fun j => j = gs) (.inl rfl) _ _ (Chg.refl _ _)
  have hap := own_apart h.sec h.row (by decide)
  have hap2 := own_apart2 h.loo h.sec (by decide)
  refine ⟨h.hb, h.row.chg c (fun e => hap gs rfl e.symm), ?_, own_chg h.loo c (fun k hk e => hap2 k hk (by rw [e]; rfl)), h.ok.put (by simp) (fun d hd => ?_)⟩
  · show World.ownsRow _ _ _ _ _ (M.s.set I b).length ((M.s.set I b).map bytesV).flatten
    rw [List.length_set, hn, List.map_set]
    exact h1
  · rcases List.mem_or_eq_of_mem_set hd with h2 | h2
    · exact h.ok.s d h2
    · rw [h2]; exact hb
theorem p_fd_stays {base g gs : Nat} {vs vl : Value} {M : DiskM} {w W W' : World} (h : p_RefD base W g vs vl M ∧ Chg (fun j => j = g ∨ j = gs) w W) (k : Same W W') : p_RefD base W' g vs vl M ∧ Chg (fun j => j = g ∨ j = gs) w W' :=
  ⟨h.1.below k, h.2.trans (Chg.of_below (F := fun _ => False) k) fun _ h => h.elim⟩
theorem p_RefD.emptied {base : Nat} {w : World} {g : Nat} {vs vl : Value} {M : DiskM} (h : p_RefD base w g vs vl M) : p_RefD base (w.setCell ⟨g, 1, none⟩ (.slice none 0 0)) g vs (.slice none 0 0) { M with l := [] } := by
  have c := Chg.one w g 1 (.slice none 0 0)
  exact ⟨h.hb, h.row.put 1 _, own_chg h.sec c (own_apart h.sec h.row (by decide)), World.ownsRow_nil _ _ _ _, h.ok.lo, h.ok.hi, h.ok.s, (fun x hx => by cases hx), h.ok.f⟩
def p_FlushPost (base : Nat) (w : World) (g : Nat) (vs vl : Value) (M : DiskM) : Ending → World → Prop := fun e w' =>
  if M.stuck then e = .returned (.int .i64 20) ∧ p_RefD base w' g vs vl M.fell ∧ Chg (fun k => k = g) w w'
  else e = .returned (.int .i64 0) ∧ p_RefD base w' g vs (.slice none 0 0) M.flushed ∧ Chg (fun k => k = g ∨ vs.ownBlock = some k) w w'
set_option maxRecDepth 20000 in
set_option maxHeartbeats 800000 in
theorem p_refflush_any (base : Nat) (w : World) (g : Nat) (vs vl : Value) (M : DiskM) (h : p_RefD base w g vs vl M) (hl : M.l.length ≤ 1000000000) :
    Calls Try.prog 28 #[.pointer (some ⟨g, 0, none⟩)] w (p_FlushPost base w g vs vl M) := by
  have H1 := Lib.hid h
  by_cases hs : M.stuck = true
  · have e0 : p_FlushPost base w g vs vl M = fun e w' => e = .returned (.int .i64 20) ∧ p_RefD base w' g vs vl M.fell ∧ Chg (fun k => k = g) w w' := by
      funext e w'; unfold p_FlushPost; rw [if_pos hs]
    rw [e0]
    have C2 := p_refthru_raw _ g vs vl M.f M.down H1.out.row H1.out.ok.f
    rw [show (M.down || M.f == 0) = true from hs] at C2
    clear h
    go_enter Try.func28, Try.ntmps28
    go_wp2_with fail
    refine C2.mono ?_
    rintro e w2 ⟨rfl, r2, c2⟩
    have H2 := Lib.hid (H1.out.next (M' := M.fell) rfl rfl H1.out.ok.fell r2 c2)
    have HC := Lib.hid c2
    clear C2 r2 c2
    go_wp2_with fail
    go_ret
    exact ⟨rfl, H2.out, HC.out⟩
  · have hs' : M.stuck = false := by simpa using hs
    have e0 : p_FlushPost base w g vs vl M = fun e w' => e = .returned (.int .i64 0) ∧ p_RefD base w' g vs (.slice none 0 0) M.flushed ∧ Chg (fun k => k = g ∨ vs.ownBlock = some k) w w' := by
      funext e w'; unfold p_FlushPost; rw [if_neg hs]
    rw [e0]
    have C2 := p_refthru_raw _ g vs vl M.f M.down H1.out.row H1.out.ok.f
    rw [show (M.down || M.f == 0) = false from hs'] at C2
    have HDN : Hid (M.down = false) := Lib.hid (by unfold DiskM.stuck at hs'; exact (Bool.or_eq_false_iff.1 hs').1)
    obtain ⟨gs, n, cs, rfl, hnn⟩ : ∃ gs n cs, vs = .slice (some ⟨gs, 0, none⟩) n cs ∧ M.s.length = n := by
      rcases h.sec.2 with ⟨_, h0⟩ | ⟨gs, cs, _, e, _⟩
      · have := h.ok.lo; omega
      · exact ⟨gs, _, cs, e, rfl⟩
    obtain ⟨Al, m, cl, rfl, hmm⟩ : ∃ Al m cl, vl = .slice Al m cl ∧ M.l.length = m := by
      obtain ⟨A, c, e, _⟩ := own_slice_form h.loo
      exact ⟨A, _, c, e, rfl⟩
    have HN := Lib.hid hnn
    have HM := Lib.hid hmm
    have hn := h.ok.hi
    rw [hnn] at hn
    rw [hmm] at hl
    clear e0 hs hs' h hnn hmm
    go_enter Try.func28, Try.ntmps28
    go_wp2_with fail
    refine C2.mono ?_
    rintro e w1 ⟨rfl, r2, c2⟩
    have r2' : Row w1 g 80 #[.slice (some ⟨gs, 0, none⟩) n cs, .slice Al m cl, .int .i64 M.burnt.f, .bool M.burnt.down] := by rw [show M.burnt.down = false from HDN.out]; exact r2
    have H2 := Lib.hid (H1.out.next (M' := M.burnt) rfl rfl H1.out.ok.burnt r2' c2)
    have HC0 := Lib.hid (c2.mono (F' := fun j => j = g ∨ j = gs) fun k hk => .inl (.inl hk))
    have k1 : w1.cell? ⟨g, 1, none⟩ = some (.slice Al m cl) := H2.out.row.get rfl
    clear C2 r2 r2' c2 H1
    go_wp2_with fail
    clear k1
    go_loopw [15] (fun i wr => ∃ k : Nat, k ≤ m ∧ i = .int .i64 k ∧ p_RefD base wr g (.slice (some ⟨gs, 0, none⟩) n cs) (.slice Al m cl) (M.burnt.at_ (DiskM.put M.s (M.l.take k))) ∧ Chg (fun j => j = g ∨ j = gs) w wr) (fun i _ => m - (intOf i).toNat)
    case atStart => exact ⟨0, by omega, rfl, H2.out, HC0.out⟩
    case round =>
      obtain ⟨k, hk, rfl, hR, hC⟩ := hrel
      have HR := Lib.hid hR
      have HC := Lib.hid hC
      clear H2 HC0
      by_cases hlt : k < m
      · obtain ⟨⟨I, b⟩, hx⟩ : ∃ x, M.l[k]? = some x := ⟨_, List.getElem?_eq_getElem (by rw [HM.out]; exact hlt)⟩
        obtain ⟨gl, rfl⟩ : ∃ gl, Al = some ⟨gl, 0, none⟩ := by
          rcases hR.loo.2 with ⟨_, h0⟩ | ⟨gl, _, _, e, _⟩
          · have e : M.l.length = 0 := h0
            rw [HM.out] at e
            omega
          · injection e with e _ _; exact ⟨gl, e⟩
        obtain ⟨Mk, hMk⟩ : ∃ Mk, M.burnt.at_ (DiskM.put M.s (M.l.take k)) = Mk := ⟨_, rfl⟩
        obtain ⟨Mk1, hMk1⟩ : ∃ Mk1, M.burnt.at_ (DiskM.put M.s (M.l.take (k + 1))) = Mk1 := ⟨_, rfl⟩
        have HK2 := Lib.hid hMk1.symm
        have HK1 : Hid (Mk1 = Mk.at_ (Mk.s.set I b)) := Lib.hid (by rw [← hMk1, ← hMk, take_put _ _ _ _ hx]; rfl)
        have HX : Hid (Mk.l[k]? = some (I, b)) := Lib.hid (by rw [← hMk]; exact hx)
        have hokl := hR.ok.l (I, b) (List.mem_of_getElem? hx)
        have hI : Hid (I < Mk.s.length) := Lib.hid (by rw [← hMk]; exact hokl.1)
        have HB : Hid (b.length = 32) := Lib.hid hokl.2
        have hIn : I < n := by
          have := hokl.1
          change I < (DiskM.put M.s (M.l.take k)).length at this
          rw [DiskM.length_put, HN.out] at this
          exact this
        rw [hMk] at HR
        have hrg := HR.out.loo_elem HX.out
        clear hMk hMk1 hx hokl hR hC
        have hi0 : (0 : Int) ≤ (I : Int) := by omega
        have hi1 : (I : Int) < (n : Int) := by omega
        have hk0 : (0 : Int) ≤ (k : Int) := by omega
        have hk1 : (k : Int) < (m : Int) := by omega
        have hz := zeros_put
        obtain ⟨W8, hW8⟩ : ∃ W8, wr.alloc (.cells (wcell (I, b)).toArray 70) = W8 := ⟨_, rfl⟩
        have HF8 : Hid (p_RefD base W8 g (.slice (some ⟨gs, 0, none⟩) n cs) (.slice (some ⟨gl, 0, none⟩) m cl) Mk ∧ Chg (fun j => j = g ∨ j = gs) w W8 ∧ Row W8 wr.heap.size 70 (wcell (I, b)).toArray) := Lib.hid (by rw [← hW8]; exact ⟨HR.out.below (Same.alloc _ _), HC.out.alloc _, Row.fresh _ _ _⟩)
        have HW8 := Lib.hid hW8
        clear hW8
        go_wp2_with (first | (refine wpList_load_mid rfl 70 _ rfl gl (k * 33) rfl (wcell (I, b)) _ hrg Try.underlying70 rfl (by rw [len_wcell HB.out]; exact size_put) ?_) | (refine wpList_store_row rfl 70 _ _ rfl wr.heap.size (wcell (I, b)).toArray rfl rfl 70 _ (Row.fresh _ _ _) (by rw [size_wcell HB.out]; exact size_put) (by rw [size_wcell (x := (I, b)) HB.out]; exact size_wcell (x := (0, blk 0#8)) (length_blk _)) (all_wcell _) ?_; rw [World.setRow_alloc_new]))
        clear hrg hz
        rw [HW8.out]
        obtain ⟨gp, hgp⟩ : ∃ gp, wr.heap.size = gp := ⟨_, rfl⟩
        rw [hgp] at HF8 ⊢
        clear hgp
        have hF0 : Wl [fun W => p_RefD base W g (.slice (some ⟨gs, 0, none⟩) n cs) (.slice (some ⟨gl, 0, none⟩) m cl) Mk ∧ Chg (fun j => j = g ∨ j = gs) w W ∧ Row W gp 70 (wcell (I, b)).toArray, fun W => p_RefD base W g (.slice (some ⟨gs, 0, none⟩) n cs) (.slice (some ⟨gl, 0, none⟩) m cl) Mk1 ∧ Chg (fun j => j = g ∨ j = gs) w W] 0 W8.drew := p_f0s HF8.out (Below.refl _ _).drew
        refine wp_region_phs [is (.pointer (some ⟨g, 0, none⟩)), is (.pointer (some ⟨g, 0, none⟩)), is (.pointer (some ⟨g, 0, none⟩)), is (.slice (some ⟨gs, 0, none⟩) n cs), is (.pointer (some ⟨gp, 0, none⟩)), is (.int .i64 (I : Int)), is (.pointer (some ⟨gp, 1, none⟩)), is (.agg (bs b)), is (.pointer (some ⟨gs, I * 32, none⟩)), anyV] [true, true, true, true, true, true, true, true, true, true] [(fun W => p_RefD base W g (.slice (some ⟨gs, 0, none⟩) n cs) (.slice (some ⟨gl, 0, none⟩) m cl) Mk ∧ Chg (fun j => j = g ∨ j = gs) w W ∧ Row W gp 70 (wcell (I, b)).toArray), (fun W => p_RefD base W g (.slice (some ⟨gs, 0, none⟩) n cs) (.slice (some ⟨gl, 0, none⟩) m cl) Mk1 ∧ Chg (fun j => j = g ∨ j = gs) w W)] [false, false, false, false, false, false, false, false, false, true] [some 0, some 0, some 0, some 0, some 0, some 0, some 0, some 0, some 0, some 0] [some 19, some 20, some 21, some 22, some 23, some 24, some 25, some 26, some 27, none] 10 1 (fun _ => true) rfl rfl (by kernel_rfl) (by kernel_rfl) (by kernel_rfl) (by kernel_rfl) ?_ ?_ ?_ ?_ ?_ ?_
        · repeat first | exact wok_nil | refine wok_cons (by first | exact fun _ _ h k => p_f0s h k | exact fun _ _ h k => p_fd_stays h k) ?_
        · repeat first | exact vok_nil | refine vok_rig (by first | exact fun _ _ _ h => h) ?_ | refine vok_soft (by first | exact fun _ _ _ h _ => h) ?_
        · exact hF0
        · repeat first | exact all_end (by decide) | refine all_cons (by first | exact rfl | exact ⟨rfl, fun _ _ h => Or.inl h⟩ | exact ⟨rfl, fun _ _ h => Or.inr ⟨h, rfl⟩⟩) ?_
        · refine allp_mild 0 rfl rfl rfl (fun a x W hout hin hP => ?_) ?_
          · have e0 : a.tmps[0]? = some (.pointer (some ⟨g, 0, none⟩)) := (hout 0 (by kernel_rfl)).trans rfl
            exact does_move rfl e0 ⟨Same.refl _, rfl⟩
          refine allp_mild 0 rfl rfl rfl (fun a x W hout hin hP => ?_) ?_
          · have e19 := hin.is 0 19 (by kernel_rfl) (by decide) (by kernel_rfl) (by kernel_rfl) _ rfl
            clear hin hout
            intro K Q hK
            go_simp
            exact hK _ _ ⟨Same.refl _, rfl⟩
          refine allp_mild 0 rfl rfl rfl (fun a x W hout hin hP => ?_) ?_
          · have e20 := hin.is 1 20 (by kernel_rfl) (by decide) (by kernel_rfl) (by kernel_rfl) _ rfl
            clear hin hout
            intro K Q hK
            go_simp
            exact hK _ _ ⟨Same.refl _, rfl⟩
          refine allp_mild 0 rfl rfl rfl (fun a x W hout hin hP => ?_) ?_
          · have e21 := hin.is 2 21 (by kernel_rfl) (by decide) (by kernel_rfl) (by kernel_rfl) _ rfl
            have hc : W.cell? ⟨g, 0, none⟩ = some (.slice (some ⟨gs, 0, none⟩) n cs) := hP.1.row.get rfl
            clear hP
            clear hin hout
            intro K Q hK
            go_simp
            exact hK _ _ ⟨Same.refl _, rfl⟩
          refine allp_mild 0 rfl rfl rfl (fun a x W hout hin hP => ?_) ?_
          · have e4 : a.tmps[4]? = some (.pointer (some ⟨gp, 0, none⟩)) := (hout 4 (by kernel_rfl)).trans rfl
            clear hin hout
            intro K Q hK
            go_simp
            exact hK _ _ ⟨Same.refl _, rfl⟩
          refine allp_mild 0 rfl rfl rfl (fun a x W hout hin hP => ?_) ?_
          · have e23 := hin.is 4 23 (by kernel_rfl) (by decide) (by kernel_rfl) (by kernel_rfl) _ rfl
            have hc : W.cell? ⟨gp, 0, none⟩ = some (.int .i64 (I : Int)) := hP.2.2.get rfl
            clear hP
            clear hin hout
            intro K Q hK
            go_simp
            exact hK _ _ ⟨Same.refl _, rfl⟩
          refine allp_mild 0 rfl rfl rfl (fun a x W hout hin hP => ?_) ?_
          · have e4 : a.tmps[4]? = some (.pointer (some ⟨gp, 0, none⟩)) := (hout 4 (by kernel_rfl)).trans rfl
            clear hin hout
            intro K Q hK
            go_simp
            exact hK _ _ ⟨Same.refl _, rfl⟩
          refine allp_mild 0 rfl rfl rfl (fun a x W hout hin hP => ?_) ?_
          · have e25 := hin.is 6 25 (by kernel_rfl) (by decide) (by kernel_rfl) (by kernel_rfl) _ rfl
            clear hin hout
            intro K Q hK
            refine wp_load_mid 52 (.tmp 25) rfl gp 1 (eval_of_get e25) (bs b).toList _ (put_b hP.2.2) Try.underlying52 rfl (by rw [len_bs, HB.out]; exact size_blk) ?_
            exact hK _ _ ⟨Same.refl _, by simp [Vs, is]⟩
          refine allp_mild 0 rfl rfl rfl (fun a x W hout hin hP => ?_) ?_
          · have e22 := hin.is 3 22 (by kernel_rfl) (by decide) (by kernel_rfl) (by kernel_rfl) _ rfl
            have e24 := hin.is 5 24 (by kernel_rfl) (by decide) (by kernel_rfl) (by kernel_rfl) _ rfl
            clear hin hout
            intro K Q hK
            go_simp
            exact hK _ _ ⟨Same.refl _, rfl⟩
          refine allp_wild 0 rfl rfl rfl (fun a x W hout hin hP => ?_) ?_
          · have e27 := hin.is 8 27 (by kernel_rfl) (by decide) (by kernel_rfl) (by kernel_rfl) _ rfl
            have e26 := hin.is 7 26 (by kernel_rfl) (by decide) (by kernel_rfl) (by kernel_rfl) _ rfl
            clear hout
            intro K Q hK
            have HS := p_stored_sec hP.1 hI.out HB.out
            have HC := hP.2.1
            refine wp_store_mid 52 (.tmp 27) (.tmp 26) rfl gs (I * 32) (bs b) (eval_of_get e27) (eval_of_get e26) (by rw [size_bs, HB.out]; exact p_there_sec hP.1 hI.out) (by rw [size_bs, HB.out]; exact size_blk) (one_bs _) ?_
            rw [bs_toList]
            exact hK undef _ ⟨⟨by rw [HK1.out]; exact HS, Chg.setCells (.inl (.inr rfl)) _ _ HC⟩, trivial⟩
          exact all_end (by decide)
        · intro x W hP hV
          clear hV
          obtain ⟨hD, hC⟩ : p_RefD base W g (.slice (some ⟨gs, 0, none⟩) n cs) (.slice (some ⟨gl, 0, none⟩) m cl) Mk1 ∧ Chg (fun j => j = g ∨ j = gs) w W := hP
          have HD := Lib.hid hD
          have HC := Lib.hid hC
          clear hD hC
          simp only [putL, Act.put, List.setIfInBounds_toArray, List.set_cons_succ, List.set_cons_zero]
          refine wpAnyH_done (by kernel_rfl) ?_ _
          go_wp2_with fail
          go_roundw
          case rel => exact ⟨k + 1, by omega, by go_num, by rw [← HK2.out]; exact HD.out, HC.out⟩
          case measure => simp [intOf]; omega
      · obtain rfl : k = m := by omega
        have e1 : M.l.take k = M.l := by rw [← HM.out, List.take_length]
        rw [e1] at HR
        have f1 := hR.row.free 1
        have k1 : wr.cell? ⟨g, 1, none⟩ = some (.slice Al k cl) := hR.row.get rfl
        have H9 := Lib.hid HR.out.emptied
        have HC9 := Lib.hid (HC.out.setCell (p := ⟨g, 1, none⟩) (.inl (.inl rfl)) (.slice none 0 0))
        clear hR hC e1
        go_wp2_with fail
        go_ret
        exact ⟨rfl, H9.out, HC9.out.mono fun j hj => .inl (hj.imp id fun e => by rw [e]; rfl)⟩
end Go.Proofs.Ytcdcongeogmfkaa

/- The program's Up. -/
set_option maxRecDepth 4000
namespace Go.Proofs.Ytcdcongeogmfkaa
open Go Go.RowKit
def p_UpPost (base : Nat) (w : World) (g : Nat) (vs : Value) (M : DiskM) (keep : List (BitVec 8)) : Ending → World → Prop := fun e w' =>
  e = .returned (.tuple #[]) ∧ p_RefD base w' g vs (.slice none 0 0) (M.upped keep) ∧ Chg (fun k => k = g ∨ vs.ownBlock = some k) w w'
theorem p_RefD.upped {base : Nat} {w : World} {g : Nat} {vs vl : Value} {M : DiskM} (h : p_RefD base w g vs vl M) : p_RefD base (((w.setCell ⟨g, 1, none⟩ (.slice none 0 0)).setCell ⟨g, 2, none⟩ (.int .i64 (-1))).setCell ⟨g, 3, none⟩ (.bool false)) g vs (.slice none 0 0) ⟨M.s, [], -1, false⟩ := by
  have c := ((Chg.one w g 1 (.slice none 0 0)).setCell (p := ⟨g, 2, none⟩) (.inl rfl) (.int .i64 (-1))).setCell (p := ⟨g, 3, none⟩) (.inl rfl) (.bool false)
  exact ⟨h.hb, ((h.row.put 1 _).put 2 _).put 3 _, own_chg h.sec c (own_apart h.sec h.row (by decide)), World.ownsRow_nil _ _ _ _, h.ok.lo, h.ok.hi, h.ok.s, (fun x hx => by cases hx), by simp⟩
set_option maxRecDepth 20000 in
set_option maxHeartbeats 800000 in
theorem p_refup_any (base : Nat) (w : World) (g : Nat) (vs vl : Value) (M : DiskM) (v : Value) (keep : List (BitVec 8)) (h : p_RefD base w g vs vl M) (hl : M.l.length ≤ 1000000000) (hv : Slice w v keep) (_hkl : keep.length ≤ 1000000000) (hbase : keep ≠ [] → ∀ b o, (∃ n c, v = .slice (some ⟨b, o, none⟩) n c) → b ≠ g ∧ vs.ownBlock ≠ some b) :
    Calls Try.prog 18 #[.pointer (some ⟨g, 0, none⟩), v] w (p_UpPost base w g vs M keep) := by
  have H2 := Lib.hid h
  obtain ⟨gs, n, cs, rfl, hnn⟩ : ∃ gs n cs, vs = .slice (some ⟨gs, 0, none⟩) n cs ∧ M.s.length = n := by
    rcases h.sec.2 with ⟨_, h0⟩ | ⟨gs, cs, _, e, _⟩
    · have := h.ok.lo; omega
    · exact ⟨gs, _, cs, e, rfl⟩
  obtain ⟨Al, m, cl, rfl, hmm⟩ : ∃ Al m cl, vl = .slice Al m cl ∧ M.l.length = m := by
    obtain ⟨A, c, e, _⟩ := own_slice_form h.loo
    exact ⟨A, _, c, e, rfl⟩
  have HN := Lib.hid hnn
  have HM := Lib.hid hmm
  have hn := h.ok.hi
  rw [hnn] at hn
  rw [hmm] at hl
  obtain ⟨Ak, ck, rfl, _, hkc⟩ := hv
  have HKC := Lib.hid hkc
  obtain ⟨p, hp⟩ : ∃ p, keep.length = p := ⟨_, rfl⟩
  have HPL := Lib.hid hp
  have HBA := Lib.hid hbase
  rw [hp] at HBA ⊢
  clear h hnn hmm hkc hp hbase
  go_enter Try.func18, Try.ntmps18
  have k1 : w.cell? ⟨g, 1, none⟩ = some (.slice Al m cl) := H2.out.row.get rfl
  go_wp2_with fail
  clear k1
  go_loopw [13] (fun i wr => ∃ k : Nat, k ≤ m ∧ i = .int .i64 k ∧ p_RefD base wr g (.slice (some ⟨gs, 0, none⟩) n cs) (.slice Al m cl) (M.at_ (DiskM.put M.s (keptTo M.l keep k))) ∧ Chg (fun j => j = g ∨ j = gs) w wr) (fun i _ => m - (intOf i).toNat)
  case atStart => exact ⟨0, by omega, rfl, H2.out, Chg.refl _ _⟩
  case round =>
    obtain ⟨k, hk, rfl, hR, hC⟩ := hrel
    have HR := Lib.hid hR
    have HC := Lib.hid hC
    clear H2
    by_cases hlt : k < m
    · obtain ⟨⟨I, b⟩, hx⟩ : ∃ x, M.l[k]? = some x := ⟨_, List.getElem?_eq_getElem (by rw [HM.out]; exact hlt)⟩
      obtain ⟨gl, rfl⟩ : ∃ gl, Al = some ⟨gl, 0, none⟩ := by
        rcases hR.loo.2 with ⟨_, h0⟩ | ⟨gl, _, _, e, _⟩
        · have e : M.l.length = 0 := h0
          rw [HM.out] at e
          omega
        · injection e with e _ _; exact ⟨gl, e⟩
      have hk0 : (0 : Int) ≤ (k : Int) := by omega
      have hk1 : (k : Int) < (m : Int) := by omega
      have hokl := hR.ok.l (I, b) (List.mem_of_getElem? hx)
      have HB : Hid (b.length = 32) := Lib.hid hokl.2
      have hrg := HR.out.loo_elem hx
      have hz := zeros_put
      by_cases hltp : k < p
      · obtain ⟨y, hy⟩ : ∃ y, keep[k]? = some y := ⟨_, List.getElem?_eq_getElem (by rw [HPL.out]; exact hltp)⟩
        have hkne : keep ≠ [] := by intro e; rw [e] at hy; simp at hy
        obtain ⟨bk, ok, rfl, hbk, hck⟩ := HKC.out hkne
        have hnk := HBA.out hkne bk ok ⟨_, _, rfl⟩
        have cy0 : wr.cell? ⟨bk, ok + k, none⟩ = some (.int .u8 (bd y)) := (World.cell?_of_block (hC.block bk hbk fun e => by
          rcases e with e | e
          · exact hnk.1 e
          · exact hnk.2 (by rw [e]; rfl))).trans (hck k y hy)
        have cy : (wr.alloc (.cells (wcell (I, b)).toArray 70)).cell? ⟨bk, ok + k, none⟩ = some (.int .u8 (bd y)) := (World.cell?_alloc_lt wr _ ⟨bk, ok + k, none⟩ (Nat.lt_of_lt_of_le hbk hC.size)).trans cy0
        have hstep := keptTo_step M.l keep k (I, b) y hx hy
        have hod := odd_bd y
        have hk2 : (k : Int) < (p : Int) := by omega
        clear hck hbk hnk HKC cy0 hkne
        cases hbit : y.getLsbD 0 with
        | true =>
          rw [hbit, if_pos rfl] at hstep hod
          obtain ⟨Mk, hMk⟩ : ∃ Mk, M.at_ (DiskM.put M.s (keptTo M.l keep k)) = Mk := ⟨_, rfl⟩
          obtain ⟨Mk1, hMk1⟩ : ∃ Mk1, M.at_ (DiskM.put M.s (keptTo M.l keep (k + 1))) = Mk1 := ⟨_, rfl⟩
          have HK2 := Lib.hid hMk1.symm
          have HK1 : Hid (Mk1 = Mk.at_ (Mk.s.set I b)) := Lib.hid (by rw [← hMk1, ← hMk, hstep, DiskM.put_snoc]; rfl)
          have HX : Hid (Mk.l[k]? = some (I, b)) := Lib.hid (by rw [← hMk]; exact hx)
          have hI : Hid (I < Mk.s.length) := Lib.hid (by rw [← hMk]; exact hokl.1)
          have hIn : I < n := by
            have := hokl.1
            change I < (DiskM.put M.s (keptTo M.l keep k)).length at this
            rw [DiskM.length_put, HN.out] at this
            exact this
          rw [hMk] at HR
          have cond : ((bd y).tmod 2 == 1) = true := by rw [hod]; rfl
          have hi0 : (0 : Int) ≤ (I : Int) := by omega
          have hi1 : (I : Int) < (n : Int) := by omega
          clear hMk hMk1 hx hokl hR hC hy hstep hod hbit
          obtain ⟨W8, hW8⟩ : ∃ W8, wr.alloc (.cells (wcell (I, b)).toArray 70) = W8 := ⟨_, rfl⟩
          have HF8 : Hid (p_RefD base W8 g (.slice (some ⟨gs, 0, none⟩) n cs) (.slice (some ⟨gl, 0, none⟩) m cl) Mk ∧ Chg (fun j => j = g ∨ j = gs) w W8 ∧ Row W8 wr.heap.size 70 (wcell (I, b)).toArray) := Lib.hid (by rw [← hW8]; exact ⟨HR.out.below (Same.alloc _ _), HC.out.alloc _, Row.fresh _ _ _⟩)
          have c4 := HF8.out.2.2
          have HW8 := Lib.hid hW8
          clear hW8 c4
          go_wp2_with (first | (refine wpList_load_mid rfl 70 _ rfl gl (k * 33) rfl (wcell (I, b)) _ hrg Try.underlying70 rfl (by rw [len_wcell HB.out]; exact size_put) ?_) | (refine wpList_store_row rfl 70 _ _ rfl wr.heap.size (wcell (I, b)).toArray rfl rfl 70 _ (Row.fresh _ _ _) (by rw [size_wcell HB.out]; exact size_put) (by rw [size_wcell (x := (I, b)) HB.out]; exact size_wcell (x := (0, blk 0#8)) (length_blk _)) (all_wcell _) ?_; rw [World.setRow_alloc_new]))
          clear hrg hz cy
          rw [HW8.out]
          obtain ⟨gp, hgp⟩ : ∃ gp, wr.heap.size = gp := ⟨_, rfl⟩
          rw [hgp] at HF8 ⊢
          clear hgp
          have hF0 : Wl [fun W => p_RefD base W g (.slice (some ⟨gs, 0, none⟩) n cs) (.slice (some ⟨gl, 0, none⟩) m cl) Mk ∧ Chg (fun j => j = g ∨ j = gs) w W ∧ Row W gp 70 (wcell (I, b)).toArray, fun W => p_RefD base W g (.slice (some ⟨gs, 0, none⟩) n cs) (.slice (some ⟨gl, 0, none⟩) m cl) Mk1 ∧ Chg (fun j => j = g ∨ j = gs) w W] 0 W8.drew := p_f0s HF8.out (Below.refl _ _).drew
          refine wp_region_phs [is (.pointer (some ⟨g, 0, none⟩)), is (.pointer (some ⟨g, 0, none⟩)), is (.pointer (some ⟨g, 0, none⟩)), is (.slice (some ⟨gs, 0, none⟩) n cs), is (.pointer (some ⟨gp, 0, none⟩)), is (.int .i64 (I : Int)), is (.pointer (some ⟨gp, 1, none⟩)), is (.agg (bs b)), is (.pointer (some ⟨gs, I * 32, none⟩)), anyV] [true, true, true, true, true, true, true, true, true, true] [(fun W => p_RefD base W g (.slice (some ⟨gs, 0, none⟩) n cs) (.slice (some ⟨gl, 0, none⟩) m cl) Mk ∧ Chg (fun j => j = g ∨ j = gs) w W ∧ Row W gp 70 (wcell (I, b)).toArray), (fun W => p_RefD base W g (.slice (some ⟨gs, 0, none⟩) n cs) (.slice (some ⟨gl, 0, none⟩) m cl) Mk1 ∧ Chg (fun j => j = g ∨ j = gs) w W)] [false, false, false, false, false, false, false, false, false, true] [some 0, some 0, some 0, some 0, some 0, some 0, some 0, some 0, some 0, some 0] [some 30, some 31, some 32, some 33, some 34, some 35, some 36, some 37, some 38, none] 10 1 (fun _ => true) rfl rfl (by kernel_rfl) (by kernel_rfl) (by kernel_rfl) (by kernel_rfl) ?_ ?_ ?_ ?_ ?_ ?_
          · repeat first | exact wok_nil | refine wok_cons (by first | exact fun _ _ h k => p_f0s h k | exact fun _ _ h k => p_fd_stays h k) ?_
          · repeat first | exact vok_nil | refine vok_rig (by first | exact fun _ _ _ h => h) ?_ | refine vok_soft (by first | exact fun _ _ _ h _ => h) ?_
          · exact hF0
          · repeat first | exact all_end (by decide) | refine all_cons (by first | exact rfl | exact ⟨rfl, fun _ _ h => Or.inl h⟩ | exact ⟨rfl, fun _ _ h => Or.inr ⟨h, rfl⟩⟩) ?_
          · refine allp_mild 0 rfl rfl rfl (fun a x W hout hin hP => ?_) ?_
            · have e0 : a.tmps[0]? = some (.pointer (some ⟨g, 0, none⟩)) := (hout 0 (by kernel_rfl)).trans rfl
              exact does_move rfl e0 ⟨Same.refl _, rfl⟩
            refine allp_mild 0 rfl rfl rfl (fun a x W hout hin hP => ?_) ?_
            · have e30 := hin.is 0 30 (by kernel_rfl) (by decide) (by kernel_rfl) (by kernel_rfl) _ rfl
              clear hin hout
              intro K Q hK
              go_simp
              exact hK _ _ ⟨Same.refl _, rfl⟩
            refine allp_mild 0 rfl rfl rfl (fun a x W hout hin hP => ?_) ?_
            · have e31 := hin.is 1 31 (by kernel_rfl) (by decide) (by kernel_rfl) (by kernel_rfl) _ rfl
              clear hin hout
              intro K Q hK
              go_simp
              exact hK _ _ ⟨Same.refl _, rfl⟩
            refine allp_mild 0 rfl rfl rfl (fun a x W hout hin hP => ?_) ?_
            · have e32 := hin.is 2 32 (by kernel_rfl) (by decide) (by kernel_rfl) (by kernel_rfl) _ rfl
              have hc : W.cell? ⟨g, 0, none⟩ = some (.slice (some ⟨gs, 0, none⟩) n cs) := hP.1.row.get rfl
              clear hP
              clear hin hout
              intro K Q hK
              go_simp
              exact hK _ _ ⟨Same.refl _, rfl⟩
            refine allp_mild 0 rfl rfl rfl (fun a x W hout hin hP => ?_) ?_
            · have e5 : a.tmps[5]? = some (.pointer (some ⟨gp, 0, none⟩)) := (hout 5 (by kernel_rfl)).trans rfl
              clear hin hout
              intro K Q hK
              go_simp
              exact hK _ _ ⟨Same.refl _, rfl⟩
            refine allp_mild 0 rfl rfl rfl (fun a x W hout hin hP => ?_) ?_
            · have e34 := hin.is 4 34 (by kernel_rfl) (by decide) (by kernel_rfl) (by kernel_rfl) _ rfl
              have hc : W.cell? ⟨gp, 0, none⟩ = some (.int .i64 (I : Int)) := hP.2.2.get rfl
              clear hP
              clear hin hout
              intro K Q hK
              go_simp
              exact hK _ _ ⟨Same.refl _, rfl⟩
            refine allp_mild 0 rfl rfl rfl (fun a x W hout hin hP => ?_) ?_
            · have e5 : a.tmps[5]? = some (.pointer (some ⟨gp, 0, none⟩)) := (hout 5 (by kernel_rfl)).trans rfl
              clear hin hout
              intro K Q hK
              go_simp
              exact hK _ _ ⟨Same.refl _, rfl⟩
            refine allp_mild 0 rfl rfl rfl (fun a x W hout hin hP => ?_) ?_
            · have e36 := hin.is 6 36 (by kernel_rfl) (by decide) (by kernel_rfl) (by kernel_rfl) _ rfl
              clear hin hout
              intro K Q hK
              refine wp_load_mid 52 (.tmp 36) rfl gp 1 (eval_of_get e36) (bs b).toList _ (put_b hP.2.2) Try.underlying52 rfl (by rw [len_bs, HB.out]; exact size_blk) ?_
              exact hK _ _ ⟨Same.refl _, by simp [Vs, is]⟩
            refine allp_mild 0 rfl rfl rfl (fun a x W hout hin hP => ?_) ?_
            · have e33 := hin.is 3 33 (by kernel_rfl) (by decide) (by kernel_rfl) (by kernel_rfl) _ rfl
              have e35 := hin.is 5 35 (by kernel_rfl) (by decide) (by kernel_rfl) (by kernel_rfl) _ rfl
              clear hin hout
              intro K Q hK
              go_simp
              exact hK _ _ ⟨Same.refl _, rfl⟩
            refine allp_wild 0 rfl rfl rfl (fun a x W hout hin hP => ?_) ?_
            · have e38 := hin.is 8 38 (by kernel_rfl) (by decide) (by kernel_rfl) (by kernel_rfl) _ rfl
              have e37 := hin.is 7 37 (by kernel_rfl) (by decide) (by kernel_rfl) (by kernel_rfl) _ rfl
              clear hout
              intro K Q hK
              have HS := p_stored_sec hP.1 hI.out HB.out
              have HC := hP.2.1
              refine wp_store_mid 52 (.tmp 38) (.tmp 37) rfl gs (I * 32) (bs b) (eval_of_get e38) (eval_of_get e37) (by rw [size_bs, HB.out]; exact p_there_sec hP.1 hI.out) (by rw [size_bs, HB.out]; exact size_blk) (one_bs _) ?_
              rw [bs_toList]
              exact hK undef _ ⟨⟨by rw [HK1.out]; exact HS, Chg.setCells (.inl (.inr rfl)) _ _ HC⟩, trivial⟩
            exact all_end (by decide)
          · intro x W hP hV
            clear hV
            obtain ⟨hD, hC⟩ : p_RefD base W g (.slice (some ⟨gs, 0, none⟩) n cs) (.slice (some ⟨gl, 0, none⟩) m cl) Mk1 ∧ Chg (fun j => j = g ∨ j = gs) w W := hP
            have HD := Lib.hid hD
            have HC := Lib.hid hC
            clear hD hC
            simp only [putL, Act.put, List.setIfInBounds_toArray, List.set_cons_succ, List.set_cons_zero]
            refine wpAnyH_done (by kernel_rfl) ?_ _
            go_wp2_with fail
            exact ⟨⟨k + 1, by omega, by go_num, by rw [← HK2.out]; exact HD.out, HC.out⟩, by simp [intOf]; omega⟩
        | false =>
          rw [hbit, if_neg (by decide)] at hstep hod
          rw [List.append_nil] at hstep
          have HK2 := Lib.hid hstep
          have cond : ((bd y).tmod 2 == 1) = false := by rw [hod]; rfl
          clear hx hR hC hy hstep hod hbit hokl
          go_wp2_with (first | (refine wpList_load_mid rfl 70 _ rfl gl (k * 33) rfl (wcell (I, b)) _ hrg Try.underlying70 rfl (by rw [len_wcell HB.out]; exact size_put) ?_) | (refine wpList_store_row rfl 70 _ _ rfl wr.heap.size (wcell (I, b)).toArray rfl rfl 70 _ (Row.fresh _ _ _) (by rw [size_wcell HB.out]; exact size_put) (by rw [size_wcell (x := (I, b)) HB.out]; exact size_wcell (x := (0, blk 0#8)) (length_blk _)) (all_wcell _) ?_; rw [World.setRow_alloc_new]))
          exact ⟨⟨k + 1, by omega, by go_num, by rw [HK2.out]; exact HR.out.below (Same.alloc _ _), HC.out.alloc _⟩, by simp [intOf]; omega⟩
      · have hstep : keptTo M.l keep (k + 1) = keptTo M.l keep k := by
          rw [keptTo_all M.l keep (k + 1) (.inr (by rw [HPL.out]; omega)), keptTo_all M.l keep k (.inr (by rw [HPL.out]; omega))]
        have HK2 := Lib.hid hstep
        have hd9 : decide ((k : Int) < (p : Int)) = false := decide_eq_false (by omega)
        clear hx hR hC hstep hokl HKC
        go_wp2_with (first | (refine wpList_load_mid rfl 70 _ rfl gl (k * 33) rfl (wcell (I, b)) _ hrg Try.underlying70 rfl (by rw [len_wcell HB.out]; exact size_put) ?_) | (refine wpList_store_row rfl 70 _ _ rfl wr.heap.size (wcell (I, b)).toArray rfl rfl 70 _ (Row.fresh _ _ _) (by rw [size_wcell HB.out]; exact size_put) (by rw [size_wcell (x := (I, b)) HB.out]; exact size_wcell (x := (0, blk 0#8)) (length_blk _)) (all_wcell _) ?_; rw [World.setRow_alloc_new]))
        exact ⟨⟨k + 1, by omega, by go_num, by rw [HK2.out]; exact HR.out.below (Same.alloc _ _), HC.out.alloc _⟩, by simp [intOf]; omega⟩
    · obtain rfl : k = m := by omega
      have e1 : keptTo M.l keep k = DiskM.kept M.l keep := keptTo_all _ _ _ (by rw [HM.out]; omega)
      rw [e1] at HR
      have f1 := hR.row.free 1
      have f2 := hR.row.free 2
      have f3 := hR.row.free 3
      have k1 : wr.cell? ⟨g, 1, none⟩ = some (.slice Al k cl) := hR.row.get rfl
      have k2 : wr.cell? ⟨g, 2, none⟩ = some (.int .i64 M.f) := hR.row.get rfl
      have k3 : wr.cell? ⟨g, 3, none⟩ = some (.bool M.down) := hR.row.get rfl
      have H9 := Lib.hid HR.out.upped
      have HC9 := Lib.hid (((HC.out.setCell (p := ⟨g, 1, none⟩) (.inl (.inl rfl)) (.slice none 0 0)).setCell (p := ⟨g, 2, none⟩) (.inl (.inl rfl)) (.int .i64 (-1))).setCell (p := ⟨g, 3, none⟩) (.inl (.inl rfl)) (.bool false))
      clear hR hC e1
      go_wp2_with fail
      go_end0
      exact ⟨rfl, H9.out, HC9.out.mono fun j hj => .inl (hj.imp id fun e => by rw [e]; rfl)⟩
set_option maxHeartbeats 400000 in
theorem pup_nil (w : World) (v : Value) : Calls Try.prog 18 #[.pointer none, v] w fun e w' => e = .returned (.tuple #[]) ∧ w = w' := by
  go_enter Try.func18, Try.ntmps18
  go_wp2_with fail
  exact bodyPost_ret (results_none Try.results18 _ _ _) rfl ⟨rfl, rfl⟩
end Go.Proofs.Ytcdcongeogmfkaa

/- The program's Read. -/
set_option maxRecDepth 4000
namespace Go.Proofs.Ytcdcongeogmfkaa
open Go Go.RowKit
theorem p_sec_at {base : Nat} {w : World} {g gs n cs i : Nat} {vl : Value} {M : DiskM} (h : p_RefD base w g (.slice (some ⟨gs, 0, none⟩) n cs) vl M) (hi : i < M.s.length) : w.rangeAt gs (i * 32) (bs (M.s.getD i [])).toList := by
  have hs := h.sec
  rw [own_n hs] at hs
  have := own_elem hs (sec_len h.ok.s) (k := i) (c := bytesV (M.s.getD i [])) (by simp [List.getD_eq_getElem?_getD, hi])
  rw [bs_toList]; exact this
set_option maxRecDepth 20000 in
set_option maxHeartbeats 800000 in
theorem p_read_at (base : Nat) (w : World) (g : Nat) (vs vl : Value) (M : DiskM) (i : Nat) (h : p_RefD base w g vs vl M) (hl : M.l.length ≤ 1000000000) (hi : i < M.s.length) (hdn : M.down = false) :
    Calls Try.prog 26 #[.pointer (some ⟨g, 0, none⟩), .int .i64 (i : Int)] w fun e w' => e = .returned (.tuple #[.agg (bs (M.now i)), .int .i64 0]) ∧ Below w.heap.size w w' := by
  have hb1 := (Below.refl w.heap.size w).alloc (Nat.le_refl _) (.cells (bs (blk 0#8)) 52)
  have H := Lib.hid (h.below hb1)
  have C1 := p_refhas_any base _ g vs vl M i H.out
  rw [show M.has i = true by unfold DiskM.has; rw [decide_eq_true (by omega), decide_eq_true (by omega)]; rfl] at C1
  have k3 : (w.alloc (.cells (bs (blk 0#8)) 52)).cell? ⟨g, 3, none⟩ = some (.bool M.down) := H.out.row.get rfl
  rw [hdn] at k3
  obtain ⟨gs, n, cs, rfl, hnn⟩ : ∃ gs n cs, vs = .slice (some ⟨gs, 0, none⟩) n cs ∧ M.s.length = n := by
    rcases h.sec.2 with ⟨_, h0⟩ | ⟨gs, cs, _, e, _⟩
    · have := h.ok.lo; omega
    · exact ⟨gs, _, cs, e, rfl⟩
  obtain ⟨Al, m, cl, rfl, hmm⟩ : ∃ Al m cl, vl = .slice Al m cl ∧ M.l.length = m := by
    obtain ⟨A, c, e, _⟩ := own_slice_form h.loo
    exact ⟨A, _, c, e, rfl⟩
  have k0 : (w.alloc (.cells (bs (blk 0#8)) 52)).cell? ⟨g, 0, none⟩ = some (.slice (some ⟨gs, 0, none⟩) n cs) := H.out.row.get rfl
  have k1 : (w.alloc (.cells (bs (blk 0#8)) 52)).cell? ⟨g, 1, none⟩ = some (.slice Al m cl) := H.out.row.get rfl
  have HN := Lib.hid hnn
  have HM := Lib.hid hmm
  have HI := Lib.hid hi
  have hn := h.ok.hi
  rw [hnn] at hn hi
  rw [hmm] at hl
  have hz := zeros_blk
  have H0 : Hid ((bs (blk 0#8)).size = 32) := Lib.hid (by rw [size_bs]; exact length_blk _)
  have rz := Row.fresh w 52 (bs (blk 0#8))
  obtain ⟨D, hD⟩ : ∃ D : Nat → List (BitVec 8), ∀ k, (DiskM.put M.s (M.l.take k)).getD i [] = D k := ⟨_, fun _ => rfl⟩
  have HD := Lib.hid hD
  have HL : Hid (∀ k, (D k).length = 32) := Lib.hid fun k => by rw [← hD k]; exact now_len h.ok i HI.out k
  have r1 : (w.alloc (.cells (bs (blk 0#8)) 52)).rangeAt gs (i * 32) (bs (D 0)).toList := by rw [← hD 0]; exact p_sec_at H.out HI.out
  have hE : M.now i = D m := by rw [← hD m, ← hmm, List.take_length]; rfl
  rw [hE]
  have HB1 := Lib.hid hb1
  have hi0 : (0 : Int) ≤ (i : Int) := by omega
  have hi1 : (i : Int) < (n : Int) := by omega
  clear hE h hnn hmm hi hD hdn hb1
  go_enter Try.func26, Try.ntmps26
  go_wp2_with fail
  refine C1.mono ?_
  rintro e w1 ⟨rfl, rfl⟩
  clear C1
  go_wp2_with fail
  clear k3
  go_loopw [6] (fun j wr => wr = w.alloc (.cells (bs (blk 0#8)) 52) ∧ ∃ (k : Nat) (J : Int), j = .int .i64 J ∧ J + 1 = k ∧ k ≤ m ∧ D k = D m) (fun j _ => (intOf j + 1).toNat)
  case atStart => exact ⟨rfl, m, (m : Int) - 1, by go_num, by omega, Nat.le_refl _, rfl⟩
  case round =>
    obtain ⟨rfl, k, J, rfl, hJ, hk, hDk⟩ := hrel
    rcases k with _ | k
    · obtain rfl : J = -1 := by omega
      rw [hDk] at r1
      clear k1 hk hJ
      go_wp2_with (first | (refine wpList_load_mid rfl 52 _ rfl gs (i * 32) rfl (bs (D m)).toList _ r1 Try.underlying52 rfl (by rw [len_bs, HL.out]; exact size_blk) ?_) | (refine wpList_store_row rfl 52 _ _ rfl w.heap.size (bs (D m)) rfl rfl 52 _ rz (by rw [size_bs, HL.out]; exact size_blk) (by rw [H0.out, size_bs, HL.out]) (one_bs _) ?_))
      exact bodyPost_ret (v := .tuple #[.agg (bs (D m)), .int .i64 0]) (results_cell_tmp Try.results26 _ _ w.heap.size 52 (bs (D m)) (0, 0) _ rfl (rz.setRow _) Try.underlying52 rfl (by rw [size_bs, HL.out]; exact size_blk)) rfl ⟨rfl, below_setRow HB1.out (Nat.le_refl _) _⟩
    · obtain rfl : J = (k : Int) := by omega
      obtain ⟨⟨I, b⟩, hx⟩ : ∃ x, M.l[k]? = some x := ⟨_, List.getElem?_eq_getElem (by rw [HM.out]; omega)⟩
      obtain ⟨gl, rfl⟩ : ∃ gl, Al = some ⟨gl, 0, none⟩ := by
        rcases H.out.loo.2 with ⟨_, h0⟩ | ⟨gl, _, _, e, _⟩
        · rw [HM.out] at h0
          omega
        · injection e with e _ _; exact ⟨gl, e⟩
      have hst := now_step M.s M.l k i (I, b) hx HI.out
      rw [HD.out, HD.out, hDk] at hst
      have HST := Lib.hid hst
      have hc := p_wcell_i H.out hx
      have hr := p_wcell_b H.out hx
      have HB : Hid (b.length = 32) := Lib.hid (H.out.ok.l (I, b) (List.mem_of_getElem? hx)).2
      have hk0 : (0 : Int) ≤ (k : Int) := by omega
      have hk1 : (k : Int) < (m : Int) := by omega
      clear hst hx hDk r1 k0 hi0 hi1
      by_cases hIi : I = i
      · subst hIi
        have e1 : Hid (D m = b) := Lib.hid (by rw [HST.out, if_pos rfl])
        go_wp2_with (first | (refine wpList_load_mid rfl 52 _ rfl gl (k * 33 + 1) rfl (bs b).toList _ hr Try.underlying52 rfl (by rw [len_bs, HB.out]; exact size_blk) ?_) | (refine wpList_store_row rfl 52 _ _ rfl w.heap.size (bs b) rfl rfl 52 _ rz (by rw [size_bs, HB.out]; exact size_blk) (by rw [H0.out, size_bs, HB.out]) (one_bs _) ?_))
        exact bodyPost_ret (v := .tuple #[.agg (bs b), .int .i64 0]) (results_cell_tmp Try.results26 _ _ w.heap.size 52 (bs b) (0, 0) _ rfl (rz.setRow _) Try.underlying52 rfl (by rw [size_bs, HB.out]; exact size_blk)) rfl ⟨by rw [e1.out], below_setRow HB1.out (Nat.le_refl _) _⟩
      · have hne : ((I : Int) == (i : Int)) = false := beq_eq_false_iff_ne.2 (by omega)
        go_wp2_with fail
        exact ⟨⟨trivial, k, (k : Int) - 1, by go_num, by omega, by omega, by rw [HST.out, if_neg hIi]⟩, by simp [intOf] <;> omega⟩
set_option maxRecDepth 20000 in
set_option maxHeartbeats 800000 in
theorem p_read_no (w : World) (p : Value) (i : Int) (C1 : Calls Try.prog 42 #[p, .int .i64 i] (w.alloc (.cells (bs (blk 0#8)) 52)) fun e w' => e = .returned (.bool false) ∧ w.alloc (.cells (bs (blk 0#8)) 52) = w') :
    Calls Try.prog 26 #[p, .int .i64 i] w fun e w' => e = .returned (.tuple #[.agg (bs (blk 0#8)), .int .i64 1]) ∧ Below w.heap.size w w' := by
  have hb1 := (Below.refl w.heap.size w).alloc (Nat.le_refl _) (.cells (bs (blk 0#8)) 52)
  have hz := zeros_blk
  have H0 : Hid ((bs (blk 0#8)).size = 32) := Lib.hid (by rw [size_bs]; exact length_blk _)
  have rz := Row.fresh w 52 (bs (blk 0#8))
  go_enter Try.func26, Try.ntmps26
  go_wp2_with fail
  refine C1.mono ?_
  rintro e w1 ⟨rfl, rfl⟩
  clear C1
  go_wp2_with (first | (refine wpList_store_row rfl 52 _ _ rfl w.heap.size (bs (blk 0#8)) rfl rfl 52 _ rz (by rw [H0.out]; exact size_blk) rfl (one_bs _) ?_))
  exact bodyPost_ret (v := .tuple #[.agg (bs (blk 0#8)), .int .i64 1]) (results_cell_tmp Try.results26 _ _ w.heap.size 52 (bs (blk 0#8)) (0, 0) _ rfl (rz.setRow _) Try.underlying52 rfl (by rw [H0.out]; exact size_blk)) rfl ⟨rfl, below_setRow hb1 (Nat.le_refl _) _⟩
set_option maxRecDepth 20000 in
set_option maxHeartbeats 800000 in
theorem p_refread_any (base : Nat) (w : World) (g : Nat) (vs vl : Value) (M : DiskM) (i : Int) (h : p_RefD base w g vs vl M) (hl : M.l.length ≤ 1000000000) :
    Calls Try.prog 26 #[.pointer (some ⟨g, 0, none⟩), .int .i64 i] w (Asks w (.tuple #[.agg (bs (M.rRes i).1), .int .i64 (M.rRes i).2])) := by
  have hb1 := (Below.refl w.heap.size w).alloc (Nat.le_refl _) (.cells (bs (blk 0#8)) 52)
  have H := Lib.hid (h.below hb1)
  have C1 := p_refhas_any base _ g vs vl M i H.out
  by_cases hh : M.has i = true
  · obtain ⟨n, rfl, hn⟩ : ∃ n : Nat, i = (n : Int) ∧ n < M.s.length := by
      unfold DiskM.has at hh
      simp only [Bool.and_eq_true, decide_eq_true_eq] at hh
      exact ⟨i.toNat, by omega, by omega⟩
    rw [hh] at C1
    cases hd : M.down with
    | true =>
      have e0 : M.rRes n = (blk 0#8, 20) := by unfold DiskM.rRes; rw [hh, hd]; rfl
      rw [e0]
      have hz := zeros_blk
      have H0 : Hid ((bs (blk 0#8)).size = 32) := Lib.hid (by rw [size_bs]; exact length_blk _)
      have rz := Row.fresh w 52 (bs (blk 0#8))
      have k3 : (w.alloc (.cells (bs (blk 0#8)) 52)).cell? ⟨g, 3, none⟩ = some (.bool M.down) := H.out.row.get rfl
      rw [hd] at k3
      clear h hh e0 hd hn
      go_enter Try.func26, Try.ntmps26
      go_wp2_with fail
      refine C1.mono ?_
      rintro e w1 ⟨rfl, rfl⟩
      clear C1
      go_wp2_with (first | (refine wpList_store_row rfl 52 _ _ rfl w.heap.size (bs (blk 0#8)) rfl rfl 52 _ rz (by rw [H0.out]; exact size_blk) rfl (one_bs _) ?_))
      exact bodyPost_ret (v := .tuple #[.agg (bs (blk 0#8)), .int .i64 20]) (results_cell_tmp Try.results26 _ _ w.heap.size 52 (bs (blk 0#8)) (0, 0) _ rfl (rz.setRow _) Try.underlying52 rfl (by rw [H0.out]; exact size_blk)) rfl ⟨rfl, below_setRow hb1 (Nat.le_refl _) _⟩
    | false =>
      have e0 : M.rRes n = (M.now n, 0) := by unfold DiskM.rRes; rw [hh, hd]; rfl
      rw [e0]
      exact p_read_at base w g vs vl M n h hl hn hd
  · have hh' : M.has i = false := by simpa using hh
    have e0 : M.rRes i = (blk 0#8, 1) := by unfold DiskM.rRes; rw [hh']; rfl
    rw [hh'] at C1
    rw [e0]
    exact p_read_no w _ i C1
end Go.Proofs.Ytcdcongeogmfkaa

/- The program's New and small calls; all its contracts together. -/
set_option maxRecDepth 4000
namespace Go.Proofs.Ytcdcongeogmfkaa
open Go Go.RowKit
def p_NewPost (base : Nat) (w : World) (n : Int) : Ending → World → Prop := fun e w' =>
  if 1 ≤ n ∧ n ≤ 1024 then ∃ g vs, e = .returned (.tuple #[.pointer (some ⟨g, 0, none⟩), .int .i64 0]) ∧ p_RefD base w' g vs (.slice none 0 0) (DiskM.new n.toNat) ∧ Below w.heap.size w w' ∧ w.heap.size ≤ g ∧ ∀ k, vs.ownBlock = some k → w.heap.size ≤ k
  else e = .returned (.tuple #[.pointer none, .int .i64 1]) ∧ w = w'
set_option maxHeartbeats 800000 in
theorem p_refnew_any (base : Nat) (w : World) (n : Int) (hbase : base ≤ w.heap.size) :
    Calls Try.prog 10 #[.int .i64 n] w (p_NewPost base w n) := by
  by_cases hn : 1 ≤ n ∧ n ≤ 1024
  · have e0 : p_NewPost base w n = fun e w' => ∃ g vs, e = .returned (.tuple #[.pointer (some ⟨g, 0, none⟩), .int .i64 0]) ∧ p_RefD base w' g vs (.slice none 0 0) (DiskM.new n.toNat) ∧ Below w.heap.size w w' ∧ w.heap.size ≤ g ∧ ∀ k, vs.ownBlock = some k → w.heap.size ≤ k := by
      funext e w'; unfold p_NewPost; rw [if_pos hn]
    rw [e0]
    obtain ⟨m, rfl⟩ : ∃ m : Nat, n = (m : Int) := ⟨n.toNat, by omega⟩
    obtain ⟨h1, h2⟩ := hn
    obtain ⟨i1, hi1, hz1, hz2, hz3⟩ := info_parts info_blk
    have hB : Hid (i1.bytes * m ≤ 281474976710656) := Lib.hid (by rw [hz3]; omega)
    clear e0
    go_enter Try.func10, Try.ntmps10
    go_wp2_with (first | (refine wpList_make_full w rfl (.tmp 10) (.tmp 10) 58 rfl w.heap.size 52 i1 _ 32 Try.underlying58 hi1 hz1 hz2 .i64 .i64 (m : Int) (m : Int) m rfl rfl rfl rfl hB.out (by unfold maxLen; omega) (Nat.le_refl _) ?_; intro w1 own1 hg1))
    go_ret2
    have hb1 : Below w.heap.size w w1 := below_of_grown hg1 (fun g e => by cases e) (Nat.le_refl _)
    have hcs : (madeCells (Value.agg (bs (blk 0#8))).cells (m * 32)).toList = ((DiskM.new m).s.map bytesV).flatten := made_blocks _ rfl m
    rw [hcs] at own1
    have own2 := (own_mono own1 hbase).alloc (.cells #[.slice (some ⟨w.heap.size, 0, none⟩) m m, .slice none 0 0, .int .i64 (-1), .bool false] 80)
    have hl : (DiskM.new m).s.length = m := by simp [DiskM.new]
    refine ⟨w1.heap.size, .slice (some ⟨w.heap.size, 0, none⟩) m m, rfl, ⟨Nat.le_trans hbase hb1.size, Row.fresh _ _ _, by rw [Int.toNat_natCast, hl]; exact own2, World.ownsRow_nil _ _ _ _, by rw [Int.toNat_natCast]; exact DiskM.Ok.new (by omega) (by omega)⟩, hb1.alloc hb1.size _, hb1.size, fun k hk => ?_⟩
    injection hk with hk
    exact Nat.le_of_eq hk
  · have e0 : p_NewPost base w n = fun e w' => e = .returned (.tuple #[.pointer none, .int .i64 1]) ∧ w = w' := by
      funext e w'; unfold p_NewPost; rw [if_neg hn]
    rw [e0]
    clear e0
    by_cases h1 : n < 1
    · clear hn
      go_enter Try.func10, Try.ntmps10
      go_wp2_with fail
      go_ret2
      exact ⟨rfl, rfl⟩
    · have h2 : 1024 < n := by omega
      clear hn
      go_enter Try.func10, Try.ntmps10
      go_wp2_with fail
      go_ret2
      exact ⟨rfl, rfl⟩
def p_RefAt : Nat → World → Value → DiskM → (Nat → Prop) → Prop := fun base w p M F => ∃ g vs vl, p = .pointer (some ⟨g, 0, none⟩) ∧ p_RefD base w g vs vl M ∧ F = fun k => k = g ∨ vs.ownBlock = some k ∨ vl.ownBlock = some k
theorem p_ref_lt {base : Nat} {w : World} {p : Value} {M : DiskM} {F : Nat → Prop} (h : p_RefAt base w p M F) : ∀ k, F k → base ≤ k ∧ k < w.heap.size := by
  obtain ⟨g, vs, vl, rfl, h, rfl⟩ := h
  rintro k (rfl | hk | hk)
  · exact ⟨h.hb, h.row.lt⟩
  · exact h.sec.lt k hk
  · exact h.loo.lt k hk
theorem p_ref_keep {base : Nat} {w w' : World} {p : Value} {M : DiskM} {F G : Nat → Prop} (h : p_RefAt base w p M F) (c : Chg G w w') (hF : ∀ k, F k → ¬ G k) : p_RefAt base w' p M F := by
  obtain ⟨g, vs, vl, rfl, h, rfl⟩ := h
  exact ⟨g, vs, vl, rfl, h.keep c (hF g (.inl rfl)) (fun k hk => hF k (.inr (.inl hk))) (fun k hk => hF k (.inr (.inr hk))), rfl⟩
theorem p_ref_ok {base : Nat} {w : World} {p : Value} {M : DiskM} {F : Nat → Prop} (h : p_RefAt base w p M F) : M.Ok := by
  obtain ⟨g, vs, vl, rfl, h, rfl⟩ := h; exact h.ok
theorem p_ref_new (base : Nat) (w : World) (n : Int) (hb : base ≤ w.heap.size) : Calls Try.prog 10 #[.int .i64 n] w (Makes p_RefAt base w n) := by
  refine (p_refnew_any base w n hb).mono ?_
  intro e w' h
  unfold p_NewPost at h
  unfold Makes
  by_cases hn : 1 ≤ n ∧ n ≤ 1024
  · rw [if_pos hn] at h ⊢
    obtain ⟨g, vs, rfl, h1, h2, h3, h4⟩ := h
    refine ⟨g, _, rfl, ⟨g, vs, _, rfl, h1, rfl⟩, h2, ?_⟩
    rintro k (rfl | hk | hk)
    · exact h3
    · exact h4 k hk
    · cases hk
  · rw [if_neg hn] at h ⊢
    obtain ⟨rfl, rfl⟩ := h
    exact ⟨rfl, Below.refl _ _⟩
theorem p_ref_write (base : Nat) (w : World) (p : Value) (M : DiskM) (F : Nat → Prop) (i : Int) (b : List (BitVec 8)) (h : p_RefAt base w p M F) (hb : b.length = 32) (hl : M.l.length ≤ few) : Calls Try.prog 21 #[p, .int .i64 i, .agg (bs b)] w (Acts p_RefAt base w p F (M.wRes i b).2 (.int .i64 (M.wRes i b).1)) := by
  obtain ⟨g, vs, vl, rfl, h, rfl⟩ := h
  refine (p_refwrite_any base w g vs vl M i b h hb hl).mono ?_
  intro e w' hp
  unfold p_WrotePost at hp
  unfold Acts DiskM.wRes
  by_cases hh : M.has i = true
  · rw [if_pos hh] at hp ⊢
    by_cases hs : M.stuck = true
    · rw [if_pos hs] at hp ⊢
      obtain ⟨rfl, h1, h2⟩ := hp
      exact ⟨rfl, _, ⟨g, vs, vl, rfl, h1, rfl⟩, h2.mono fun k hk => .inl (.inl hk), fun k hk => .inl hk⟩
    · rw [if_neg hs] at hp ⊢
      obtain ⟨rfl, vl', h1, h2, h3⟩ := hp
      refine ⟨rfl, _, ⟨g, vs, vl', rfl, h1, rfl⟩, h2.mono fun k hk => .inl (hk.imp id .inr), ?_⟩
      rintro k (rfl | hk | hk)
      · exact .inl (.inl rfl)
      · exact .inl (.inr (.inl hk))
      · exact (h3 k hk).imp (fun h => .inr (.inr h)) id
  · rw [if_neg hh] at hp ⊢
    obtain ⟨rfl, h1⟩ := hp
    exact ⟨rfl, _, ⟨g, vs, vl, rfl, h.below h1, rfl⟩, Chg.of_below h1, fun k hk => .inl hk⟩
theorem p_ref_flush (base : Nat) (w : World) (p : Value) (M : DiskM) (F : Nat → Prop) (h : p_RefAt base w p M F) (hl : M.l.length ≤ few) : Calls Try.prog 28 #[p] w (Acts p_RefAt base w p F M.fRes.2 (.int .i64 M.fRes.1)) := by
  obtain ⟨g, vs, vl, rfl, h, rfl⟩ := h
  refine (p_refflush_any base w g vs vl M h hl).mono ?_
  intro e w' hp
  unfold p_FlushPost at hp
  unfold Acts DiskM.fRes
  by_cases hs : M.stuck = true
  · rw [if_pos hs] at hp ⊢
    obtain ⟨rfl, h1, h2⟩ := hp
    exact ⟨rfl, _, ⟨g, vs, vl, rfl, h1, rfl⟩, h2.mono fun k hk => .inl (.inl hk), fun k hk => .inl hk⟩
  · rw [if_neg hs] at hp ⊢
    obtain ⟨rfl, h1, h2⟩ := hp
    refine ⟨rfl, _, ⟨g, vs, _, rfl, h1, rfl⟩, h2.mono fun k hk => .inl (hk.imp id .inl), ?_⟩
    rintro k (rfl | hk | hk)
    · exact .inl (.inl rfl)
    · exact .inl (.inr (.inl hk))
    · cases hk
theorem p_ref_up (base : Nat) (w : World) (p : Value) (M : DiskM) (F : Nat → Prop) (v : Value) (keep : List (BitVec 8)) (h : p_RefAt base w p M F) (hl : M.l.length ≤ few) (hv : Slice w v keep) (hkl : keep.length ≤ few) (hF : keep ≠ [] → ∀ k, v.ownBlock = some k → ¬ F k) : Calls Try.prog 18 #[p, v] w (Acts p_RefAt base w p F (M.upped keep) (.tuple #[])) := by
  obtain ⟨g, vs, vl, rfl, h, rfl⟩ := h
  refine (p_refup_any base w g vs vl M v keep h hl hv hkl ?_).mono ?_
  · rintro hne b o ⟨n, c, rfl⟩
    have := hF hne b rfl
    exact ⟨fun e => this (.inl e), fun e => this (.inr (.inl e))⟩
  · rintro e w' ⟨rfl, h1, h2⟩
    refine ⟨rfl, _, ⟨g, vs, _, rfl, h1, rfl⟩, h2.mono fun k hk => .inl (hk.imp id .inl), ?_⟩
    rintro k (rfl | hk | hk)
    · exact .inl (.inl rfl)
    · exact .inl (.inr (.inl hk))
    · cases hk
set_option maxHeartbeats 400000 in
theorem p_fuse (base : Nat) (w : World) (p : Value) (M : DiskM) (F : Nat → Prop) (n : Int) (h : p_RefAt base w p M F) (hn : -9223372036854775808 ≤ n ∧ n < 9223372036854775808) : Calls Try.prog 23 #[p, .int .i64 n] w (Acts p_RefAt base w p F (M.fused n) (.tuple #[])) := by
  obtain ⟨g, vs, vl, rfl, h, rfl⟩ := h
  have k2 : w.cell? ⟨g, 2, none⟩ = some (.int .i64 M.f) := h.row.get rfl
  have f2 := h.row.free 2
  have c : Chg (fun k => k = g) w (w.setCell ⟨g, 2, none⟩ (.int .i64 n)) := Chg.one w g 2 _
  have H9 : Hid (p_RefD base (w.setCell ⟨g, 2, none⟩ (.int .i64 n)) g vs vl (M.fused n)) := Lib.hid (h.next (M' := M.fused n) rfl rfl ⟨h.ok.lo, h.ok.hi, h.ok.s, h.ok.l, hn⟩ (h.row.put 2 (.int .i64 n)) c)
  have HC := Lib.hid c
  clear h hn c
  go_enter Try.func23, Try.ntmps23
  go_wp2_with fail
  go_end0
  exact ⟨rfl, _, ⟨g, vs, vl, rfl, H9.out, rfl⟩, HC.out.mono (fun k hk => .inl (.inl hk)), fun k hk => .inl hk⟩
set_option maxHeartbeats 400000 in
theorem p_loose (base : Nat) (w : World) (p : Value) (M : DiskM) (F : Nat → Prop) (h : p_RefAt base w p M F) : Calls Try.prog 29 #[p] w (Asks w (.int .i64 (M.l.length : Int))) := by
  obtain ⟨g, vs, vl, rfl, h, rfl⟩ := h
  have k0 := h.row.get (i := 1) rfl
  obtain ⟨A, c, rfl, _⟩ := own_slice_form h.loo
  generalize M.l.length = n at *
  clear h
  go_enter Try.func29, Try.ntmps29
  go_wp2_with fail
  go_ret
  exact ⟨rfl, Below.refl _ _⟩
set_option maxHeartbeats 400000 in
theorem p_writeNil (w : World) (i : Int) (b : List (BitVec 8)) : Calls Try.prog 21 #[nilPtr, .int .i64 i, .agg (bs b)] w (Asks w (.int .i64 1)) := by
  have hb1 := (Below.refl w.heap.size w).alloc (Nat.le_refl _) (.cells (bs b) 52)
  have C1 := phas_nil (w.alloc (.cells (bs b) 52)) i
  unfold nilPtr
  go_enter Try.func21, Try.ntmps21
  go_wp2_with fail
  refine C1.mono ?_
  rintro e w1 ⟨rfl, rfl⟩
  go_wp2_with fail
  go_ret
  exact ⟨rfl, hb1⟩
set_option maxHeartbeats 400000 in
theorem p_flushNil (w : World) : Calls Try.prog 28 #[nilPtr] w (Asks w (.int .i64 1)) := by
  unfold nilPtr
  go_enter Try.func28, Try.ntmps28
  go_wp2_with fail
  go_ret
  exact ⟨rfl, Below.refl _ _⟩
set_option maxHeartbeats 400000 in
theorem p_fuseNil (w : World) (n : Int) : Calls Try.prog 23 #[nilPtr, .int .i64 n] w (Asks w (.tuple #[])) := by
  unfold nilPtr
  go_enter Try.func23, Try.ntmps23
  go_wp2_with fail
  exact bodyPost_ret (results_none Try.results23 _ _ _) rfl ⟨rfl, Below.refl _ _⟩
set_option maxHeartbeats 400000 in
theorem p_looseNil (w : World) : Calls Try.prog 29 #[nilPtr] w (Asks w (.int .i64 0)) := by
  unfold nilPtr
  go_enter Try.func29, Try.ntmps29
  go_wp2_with fail
  go_ret
  exact ⟨rfl, Below.refl _ _⟩
theorem asks_same {f : FuncId} {vs : Array Value} {w : World} {r : Value} (h : Calls Try.prog f vs w fun e w' => e = .returned r ∧ w = w') : Calls Try.prog f vs w (Asks w r) := by
  refine h.mono ?_
  rintro e w' ⟨rfl, rfl⟩
  exact ⟨rfl, Below.refl _ _⟩
def diskOps : DiskOps where
  A := p_RefAt
  ok := p_ref_ok
  lt := p_ref_lt
  ptr := fun h => by obtain ⟨g, _, _, rfl, _⟩ := h; exact ⟨g, rfl⟩
  keep := p_ref_keep
  new := fun base w n hb _ => p_ref_new base w n hb
  write := fun base w p M F i b h hb hl _ => p_ref_write base w p M F i b h hb hl
  read := fun base w p M F i h hl _ => by
    obtain ⟨g, vs, vl, rfl, h, rfl⟩ := h
    exact p_refread_any base w g vs vl M i h hl
  flush := p_ref_flush
  up := fun base w p M F v keep h hl hv hk hF => p_ref_up base w p M F v keep h hl hv hk fun _ => hF
  fuse := p_fuse
  loose := fun base w p M F h _ => p_loose base w p M F h
  len := fun base w p M F h => by
    obtain ⟨g, vs, vl, rfl, h, rfl⟩ := h
    exact asks_same (plen_any base w g vs vl M h)
  writeNil := fun w i b _ _ => p_writeNil w i b
  readNil := fun w i _ => p_read_no w _ i (phas_nil _ i)
  flushNil := p_flushNil
  upNil := fun w v keep _ _ => asks_same (pup_nil w v)
  fuseNil := fun w n _ => p_fuseNil w n
  looseNil := p_looseNil
  lenNil := fun w => asks_same (plen_nil w)
end Go.Proofs.Ytcdcongeogmfkaa
