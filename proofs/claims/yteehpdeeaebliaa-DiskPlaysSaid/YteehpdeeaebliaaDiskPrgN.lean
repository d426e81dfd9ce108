/- The program's New and small calls; all its contracts together. -/
import Derived.Test.YteehpdeeaebliaaDiskPrgR
import Derived.Test.YteehpdeeaebliaaDiskIf
namespace Go.Proofs.Yteehpdeeaebliaa
open Go Go.RowKit
def p_NewPost (base : Nat) (w : World) (n : Int) : Ending → World → Prop := fun e w' =>
  if 1 ≤ n ∧ n ≤ 1024 then ∃ g vs, e = .returned (.tuple #[.pointer (some ⟨g, 0, none⟩), .int .i64 0]) ∧ p_RefD base w' g vs (.slice none 0 0) (DiskM.new n.toNat) ∧ Below w.heap.size w w' ∧ w.heap.size ≤ g ∧ ∀ k, vs.ownBlock = some k → w.heap.size ≤ k
  else e = .returned (.tuple #[.pointer none, .int .i64 1]) ∧ w = w'
set_option maxHeartbeats 800000 in
theorem p_refnew_any (base : Nat) (w : World) (n : Int) (hbase : base ≤ w.heap.size) :
    Calls Try.prog 10 #[.int .i64 n] w (p_NewPost base w n) := by
  by_cases hn : 1 ≤ n ∧ n ≤ 1024
  · have e0 : p_NewPost base w n = fun e w' => ∃ g vs, e = .returned (.tuple #[.pointer (some ⟨g, 0, none⟩), .int .i64 0]) ∧ p_RefD base w' g vs (.slice none 0 0) (DiskM.new n.toNat) ∧ Below w.heap.size w w' ∧ w.heap.size ≤ g ∧ ∀ k, vs.ownBlock = some k → w.heap.size ≤ k := by
      funext e w'; unfold p_NewPost; rw [if_pos hn]
    rw [e0]
    obtain ⟨m, rfl⟩ : ∃ m : Nat, n = (m : Int) := ⟨n.toNat, by omega⟩
    obtain ⟨h1, h2⟩ := hn
    obtain ⟨i1, hi1, hz1, hz2, hz3⟩ := info_parts info_blk
    have hB : Hid (i1.bytes * m ≤ 281474976710656) := Lib.hid (by rw [hz3]; omega)
    clear e0
    go_enter Try.func10, Try.ntmps10
    go_wp2_with (first | (refine wpList_make_full w rfl (.tmp 10) (.tmp 10) 49 rfl w.heap.size 37 i1 _ 32 Try.underlying49 hi1 hz1 hz2 .i64 .i64 (m : Int) (m : Int) m rfl rfl rfl rfl hB.out (by unfold maxLen; omega) (Nat.le_refl _) ?_; intro w1 own1 hg1))
    go_ret2
    have hb1 : Below w.heap.size w w1 := below_of_grown hg1 (fun g e => by cases e) (Nat.le_refl _)
    have hcs : (madeCells (Value.agg (bs (blk 0#8))).cells (m * 32)).toList = ((DiskM.new m).s.map bytesV).flatten := made_blocks _ rfl m
    rw [hcs] at own1
    have own2 := (own_mono own1 hbase).alloc (.cells #[.slice (some ⟨w.heap.size, 0, none⟩) m m, .slice none 0 0, .int .i64 (-1), .bool false] 62)
    have hl : (DiskM.new m).s.length = m := by simp [DiskM.new]
    refine ⟨w1.heap.size, .slice (some ⟨w.heap.size, 0, none⟩) m m, rfl, ⟨Nat.le_trans hbase hb1.size, Row.fresh _ _ _, by rw [Int.toNat_natCast, hl]; exact own2, World.ownsRow_nil _ _ _ _, by rw [Int.toNat_natCast]; exact DiskM.Ok.new (by omega) (by omega)⟩, hb1.alloc hb1.size _, hb1.size, fun k hk => ?_⟩
    injection hk with hk
    exact Nat.le_of_eq hk
  · have e0 : p_NewPost base w n = fun e w' => e = .returned (.tuple #[.pointer none, .int .i64 1]) ∧ w = w' := by
      funext e w'; unfold p_NewPost; rw [if_neg hn]
    rw [e0]
    clear e0
    by_cases h1 : n < 1
    · clear hn
      go_enter Try.func10, Try.ntmps10
      go_wp2_with fail
      go_ret2
      exact ⟨rfl, rfl⟩
    · have h2 : 1024 < n := by omega
      clear hn
      go_enter Try.func10, Try.ntmps10
      go_wp2_with fail
      go_ret2
      exact ⟨rfl, rfl⟩
def p_RefAt : Nat → World → Value → DiskM → (Nat → Prop) → Prop := fun base w p M F => ∃ g vs vl, p = .pointer (some ⟨g, 0, none⟩) ∧ p_RefD base w g vs vl M ∧ F = fun k => k = g ∨ vs.ownBlock = some k ∨ vl.ownBlock = some k
theorem p_ref_lt {base : Nat} {w : World} {p : Value} {M : DiskM} {F : Nat → Prop} (h : p_RefAt base w p M F) : ∀ k, F k → base ≤ k ∧ k < w.heap.size := by
  obtain ⟨g, vs, vl, rfl, h, rfl⟩ := h
  rintro k (rfl | hk | hk)
  · exact ⟨h.hb, h.row.lt⟩
  · exact h.sec.lt k hk
  · exact h.loo.lt k hk
theorem p_ref_keep {base : Nat} {w w' : World} {p : Value} {M : DiskM} {F G : Nat → Prop} (h : p_RefAt base w p M F) (c : Chg G w w') (hF : ∀ k, F k → ¬ G k) : p_RefAt base w' p M F := by
  obtain ⟨g, vs, vl, rfl, h, rfl⟩ := h
  exact ⟨g, vs, vl, rfl, h.keep c (hF g (.inl rfl)) (fun k hk => hF k (.inr (.inl hk))) (fun k hk => hF k (.inr (.inr hk))), rfl⟩
theorem p_ref_ok {base : Nat} {w : World} {p : Value} {M : DiskM} {F : Nat → Prop} (h : p_RefAt base w p M F) : M.Ok := by
  obtain ⟨g, vs, vl, rfl, h, rfl⟩ := h; exact h.ok
theorem p_ref_new (base : Nat) (w : World) (n : Int) (hb : base ≤ w.heap.size) : Calls Try.prog 10 #[.int .i64 n] w (Makes p_RefAt base w n) := by
  refine (p_refnew_any base w n hb).mono ?_
  intro e w' h
  unfold p_NewPost at h
  unfold Makes
  by_cases hn : 1 ≤ n ∧ n ≤ 1024
  · rw [if_pos hn] at h ⊢
    obtain ⟨g, vs, rfl, h1, h2, h3, h4⟩ := h
    refine ⟨g, _, rfl, ⟨g, vs, _, rfl, h1, rfl⟩, h2, ?_⟩
    rintro k (rfl | hk | hk)
    · exact h3
    · exact h4 k hk
    · cases hk
  · rw [if_neg hn] at h ⊢
    obtain ⟨rfl, rfl⟩ := h
    exact ⟨rfl, Below.refl _ _⟩
theorem p_ref_write (base : Nat) (w : World) (p : Value) (M : DiskM) (F : Nat → Prop) (i : Int) (b : List (BitVec 8)) (h : p_RefAt base w p M F) (hb : b.length = 32) (hl : M.l.length ≤ few) : Calls Try.prog 12 #[p, .int .i64 i, .agg (bs b)] w (Acts p_RefAt base w p F (M.wRes i b).2 (.int .i64 (M.wRes i b).1)) := by
  obtain ⟨g, vs, vl, rfl, h, rfl⟩ := h
  refine (p_refwrite_any base w g vs vl M i b h hb hl).mono ?_
  intro e w' hp
  unfold p_WrotePost at hp
  unfold Acts DiskM.wRes
  by_cases hh : M.has i = true
  · rw [if_pos hh] at hp ⊢
    by_cases hs : M.stuck = true
    · rw [if_pos hs] at hp ⊢
      obtain ⟨rfl, h1, h2⟩ := hp
      exact ⟨rfl, _, ⟨g, vs, vl, rfl, h1, rfl⟩, h2.mono fun k hk => .inl (.inl hk), fun k hk => .inl hk⟩
    · rw [if_neg hs] at hp ⊢
      obtain ⟨rfl, vl', h1, h2, h3⟩ := hp
      refine ⟨rfl, _, ⟨g, vs, vl', rfl, h1, rfl⟩, h2.mono fun k hk => .inl (hk.imp id .inr), ?_⟩
      rintro k (rfl | hk | hk)
      · exact .inl (.inl rfl)
      · exact .inl (.inr (.inl hk))
      · exact (h3 k hk).imp (fun h => .inr (.inr h)) id
  · rw [if_neg hh] at hp ⊢
    obtain ⟨rfl, h1⟩ := hp
    exact ⟨rfl, _, ⟨g, vs, vl, rfl, h.below h1, rfl⟩, Chg.of_below h1, fun k hk => .inl hk⟩
theorem p_ref_flush (base : Nat) (w : World) (p : Value) (M : DiskM) (F : Nat → Prop) (h : p_RefAt base w p M F) (hl : M.l.length ≤ few) : Calls Try.prog 17 #[p] w (Acts p_RefAt base w p F M.fRes.2 (.int .i64 M.fRes.1)) := by
  obtain ⟨g, vs, vl, rfl, h, rfl⟩ := h
  refine (p_refflush_any base w g vs vl M h hl).mono ?_
  intro e w' hp
  unfold p_FlushPost at hp
  unfold Acts DiskM.fRes
  by_cases hs : M.stuck = true
  · rw [if_pos hs] at hp ⊢
    obtain ⟨rfl, h1, h2⟩ := hp
    exact ⟨rfl, _, ⟨g, vs, vl, rfl, h1, rfl⟩, h2.mono fun k hk => .inl (.inl hk), fun k hk => .inl hk⟩
  · rw [if_neg hs] at hp ⊢
    obtain ⟨rfl, h1, h2⟩ := hp
    refine ⟨rfl, _, ⟨g, vs, _, rfl, h1, rfl⟩, h2.mono fun k hk => .inl (hk.imp id .inl), ?_⟩
    rintro k (rfl | hk | hk)
    · exact .inl (.inl rfl)
    · exact .inl (.inr (.inl hk))
    · cases hk
theorem p_ref_up (base : Nat) (w : World) (p : Value) (M : DiskM) (F : Nat → Prop) (v : Value) (keep : List (BitVec 8)) (h : p_RefAt base w p M F) (hl : M.l.length ≤ few) (hv : Slice w v keep) (hkl : keep.length ≤ few) (hF : keep ≠ [] → ∀ k, v.ownBlock = some k → ¬ F k) : Calls Try.prog 19 #[p, v] w (Acts p_RefAt base w p F (M.upped keep) (.tuple #[])) := by
  obtain ⟨g, vs, vl, rfl, h, rfl⟩ := h
  refine (p_refup_any base w g vs vl M v keep h hl hv hkl ?_).mono ?_
  · rintro hne b o ⟨n, c, rfl⟩
    have := hF hne b rfl
    exact ⟨fun e => this (.inl e), fun e => this (.inr (.inl e))⟩
  · rintro e w' ⟨rfl, h1, h2⟩
    refine ⟨rfl, _, ⟨g, vs, _, rfl, h1, rfl⟩, h2.mono fun k hk => .inl (hk.imp id .inl), ?_⟩
    rintro k (rfl | hk | hk)
    · exact .inl (.inl rfl)
    · exact .inl (.inr (.inl hk))
    · cases hk
set_option maxHeartbeats 400000 in
theorem p_fuse (base : Nat) (w : World) (p : Value) (M : DiskM) (F : Nat → Prop) (n : Int) (h : p_RefAt base w p M F) (hn : -9223372036854775808 ≤ n ∧ n < 9223372036854775808) : Calls Try.prog 21 #[p, .int .i64 n] w (Acts p_RefAt base w p F (M.fused n) (.tuple #[])) := by
  obtain ⟨g, vs, vl, rfl, h, rfl⟩ := h
  have k2 : w.cell? ⟨g, 2, none⟩ = some (.int .i64 M.f) := h.row.get rfl
  have f2 := h.row.free 2
  have c : Chg (fun k => k = g) w (w.setCell ⟨g, 2, none⟩ (.int .i64 n)) := Chg.one w g 2 _
  have H9 : Hid (p_RefD base (w.setCell ⟨g, 2, none⟩ (.int .i64 n)) g vs vl (M.fused n)) := Lib.hid (h.next (M' := M.fused n) rfl rfl ⟨h.ok.lo, h.ok.hi, h.ok.s, h.ok.l, hn⟩ (h.row.put 2 (.int .i64 n)) c)
  have HC := Lib.hid c
  clear h hn c
  go_enter Try.func21, Try.ntmps21
  go_wp2_with fail
  go_end0
  exact ⟨rfl, _, ⟨g, vs, vl, rfl, H9.out, rfl⟩, HC.out.mono (fun k hk => .inl (.inl hk)), fun k hk => .inl hk⟩
set_option maxHeartbeats 400000 in
theorem p_loose (base : Nat) (w : World) (p : Value) (M : DiskM) (F : Nat → Prop) (h : p_RefAt base w p M F) : Calls Try.prog 22 #[p] w (Asks w (.int .i64 (M.l.length : Int))) := by
  obtain ⟨g, vs, vl, rfl, h, rfl⟩ := h
  have k0 := h.row.get (i := 1) rfl
  obtain ⟨A, c, rfl, _⟩ := own_slice_form h.loo
  generalize M.l.length = n at *
  clear h
  go_enter Try.func22, Try.ntmps22
  go_wp2_with fail
  go_ret
  exact ⟨rfl, Below.refl _ _⟩
set_option maxHeartbeats 400000 in
theorem p_down (base : Nat) (w : World) (p : Value) (M : DiskM) (F : Nat → Prop) (h : p_RefAt base w p M F) : Calls Try.prog 23 #[p] w (Asks w (.bool M.down)) := by
  obtain ⟨g, vs, vl, rfl, h, rfl⟩ := h
  have k0 := h.row.get (i := 3) rfl
  generalize M.down = n at *
  clear h
  go_enter Try.func23, Try.ntmps23
  go_wp2_with fail
  go_ret
  exact ⟨rfl, Below.refl _ _⟩
set_option maxHeartbeats 400000 in
theorem p_writeNil (w : World) (i : Int) (b : List (BitVec 8)) : Calls Try.prog 12 #[nilPtr, .int .i64 i, .agg (bs b)] w (Asks w (.int .i64 1)) := by
  have hb1 := (Below.refl w.heap.size w).alloc (Nat.le_refl _) (.cells (bs b) 37)
  have C1 := phas_nil (w.alloc (.cells (bs b) 37)) i
  unfold nilPtr
  go_enter Try.func12, Try.ntmps12
  go_wp2_with fail
  refine C1.mono ?_
  rintro e w1 ⟨rfl, rfl⟩
  go_wp2_with fail
  go_ret
  exact ⟨rfl, hb1⟩
set_option maxHeartbeats 400000 in
theorem p_flushNil (w : World) : Calls Try.prog 17 #[nilPtr] w (Asks w (.int .i64 1)) := by
  unfold nilPtr
  go_enter Try.func17, Try.ntmps17
  go_wp2_with fail
  go_ret
  exact ⟨rfl, Below.refl _ _⟩
set_option maxHeartbeats 400000 in
theorem p_fuseNil (w : World) (n : Int) : Calls Try.prog 21 #[nilPtr, .int .i64 n] w (Asks w (.tuple #[])) := by
  unfold nilPtr
  go_enter Try.func21, Try.ntmps21
  go_wp2_with fail
  exact bodyPost_ret (results_none Try.results21 _ _ _) rfl ⟨rfl, Below.refl _ _⟩
set_option maxHeartbeats 400000 in
theorem p_looseNil (w : World) : Calls Try.prog 22 #[nilPtr] w (Asks w (.int .i64 0)) := by
  unfold nilPtr
  go_enter Try.func22, Try.ntmps22
  go_wp2_with fail
  go_ret
  exact ⟨rfl, Below.refl _ _⟩
set_option maxHeartbeats 400000 in
theorem p_downNil (w : World) : Calls Try.prog 23 #[nilPtr] w (Asks w (.bool false)) := by
  unfold nilPtr
  go_enter Try.func23, Try.ntmps23
  go_wp2_with fail
  go_ret
  exact ⟨rfl, Below.refl _ _⟩
theorem asks_same {f : FuncId} {vs : Array Value} {w : World} {r : Value} (h : Calls Try.prog f vs w fun e w' => e = .returned r ∧ w = w') : Calls Try.prog f vs w (Asks w r) := by
  refine h.mono ?_
  rintro e w' ⟨rfl, rfl⟩
  exact ⟨rfl, Below.refl _ _⟩
def diskOps : DiskOps where
  A := p_RefAt
  ok := p_ref_ok
  lt := p_ref_lt
  ptr := fun h => by obtain ⟨g, _, _, rfl, _⟩ := h; exact ⟨g, rfl⟩
  keep := p_ref_keep
  new := fun base w n hb _ => p_ref_new base w n hb
  write := fun base w p M F i b h hb hl _ => p_ref_write base w p M F i b h hb hl
  read := fun base w p M F i h hl _ => by
    obtain ⟨g, vs, vl, rfl, h, rfl⟩ := h
    exact p_refread_any base w g vs vl M i h hl
  flush := p_ref_flush
  up := fun base w p M F v keep h hl hv hk hF => p_ref_up base w p M F v keep h hl hv hk fun _ => hF
  fuse := p_fuse
  loose := fun base w p M F h _ => p_loose base w p M F h
  down := p_down
  len := fun base w p M F h => by
    obtain ⟨g, vs, vl, rfl, h, rfl⟩ := h
    exact asks_same (plen_any base w g vs vl M h)
  writeNil := fun w i b _ _ => p_writeNil w i b
  readNil := fun w i _ => p_read_no w _ i (phas_nil _ i)
  flushNil := p_flushNil
  upNil := fun w v keep _ _ => asks_same (pup_nil w v)
  fuseNil := fun w n _ => p_fuseNil w n
  looseNil := p_looseNil
  downNil := p_downNil
  lenNil := fun w => asks_same (plen_nil w)
end Go.Proofs.Yteehpdeeaebliaa
