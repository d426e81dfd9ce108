/- The document's answer for H behind one more block: the plain function's. -/
import Derived.Test.YtnfceejmkcohnaaDoorRefT
namespace Go.Proofs.YtnfceejmkcohnaaDoor
open Go Go.RowKit
attribute [local go_sem] xor_wd and_wd or_wd add_wd shr_wd not_wd signed_u32 conv_bd shl24_wd shl16_wd shl8_wd
def R4 (w wr : World) (h : List (BitVec 32)) (l : List (BitVec 8)) (k : Nat) : Prop :=
  Row wr w.heap.size 46 (ws h) ∧ Row wr (w.heap.size + 1) 48 (bs l) ∧ Row wr (w.heap.size + 1 + 1) 46 (ws (zeros 8)) ∧ Row wr (w.heap.size + 1 + 1 + 1) 58 (ws (sched l k)) ∧ Below w.heap.size w wr
theorem r4_start {w : World} {h : List (BitVec 32)} {l : List (BitVec 8)} : R4 w ((((w.alloc (.cells (ws h) 46)).alloc (.cells (bs l) 48)).alloc (.cells (ws (zeros 8)) 46)).alloc (.cells (ws (zeros 64)) 58)) h l 0 := by
  refine ⟨(row3a w _ _ _ _).alloc _, (row3b w _ _ _ _).alloc _, (row3c w _ _ _ _).alloc _, ?_, (below3 w _ _ _).alloc (by simp; omega) _⟩
  have e : w.heap.size + 1 + 1 + 1 = (((w.alloc (.cells (ws h) 46)).alloc (.cells (bs l) 48)).alloc (.cells (ws (zeros 8)) 46)).heap.size := by simp
  rw [e]; exact Row.fresh _ _ _
theorem r4_step {w wr : World} {h : List (BitVec 32)} {l : List (BitVec 8)} {k : Nat} {x : BitVec 32} (hx : x = if k < 16 then wordAt l k else next (sched l k) k) (hr : R4 w wr h l k) :
    R4 w (wr.setCell ⟨w.heap.size + 1 + 1 + 1, k, none⟩ (.int .u32 (wd x))).drew h l (k + 1) := by
  obtain ⟨h1, h2, h3, h4, h5⟩ := hr
  refine ⟨(h1.far (by simp; omega) _).drew, (h2.far (by simp) _).drew, (h3.far (by simp) _).drew, ?_, (h5.setCell (by simp; omega) _).drew⟩
  have t := (h4.put k (.int .u32 (wd x))).drew
  rw [set_ws, hx] at t
  subst hx
  exact t
theorem R4.drewN {w wr : World} {h : List (BitVec 32)} {l : List (BitVec 8)} {k : Nat} (hr : R4 w wr h l k) (n : Nat) : R4 w (wr.drewN n) h l k := by
  obtain ⟨h1, h2, h3, h4, h5⟩ := hr
  exact ⟨h1, h2, h3, h4, below_drewN h5 n⟩
theorem R4.alloc {w wr : World} {h : List (BitVec 32)} {l : List (BitVec 8)} {k : Nat} (hr : R4 w wr h l k) (o : Obj) : R4 w (wr.alloc o) h l k := by
  obtain ⟨h1, h2, h3, h4, h5⟩ := hr
  exact ⟨h1.alloc o, h2.alloc o, h3.alloc o, h4.alloc o, h5.alloc h5.size o⟩
theorem R4.call {w wr w' : World} {h : List (BitVec 32)} {l : List (BitVec 8)} {k : Nat} (hr : R4 w wr h l k) (hb : Below wr.heap.size wr w') : R4 w w' h l k := by
  obtain ⟨h1, h2, h3, h4, h5⟩ := hr
  exact ⟨h1.call hb, h2.call hb, h3.call hb, h4.call hb, h5.trans (hb.mono h5.size)⟩
theorem R4.setRow {w wr : World} {h : List (BitVec 32)} {l : List (BitVec 8)} {k g : Nat} (hr : R4 w wr h l k) (hg : w.heap.size + 1 + 1 + 1 < g) (cs : Array Value) : R4 w (wr.setRow g cs) h l k := by
  obtain ⟨h1, h2, h3, h4, h5⟩ := hr
  exact ⟨h1.setRow_far (by omega) cs, h2.setRow_far (by omega) cs, h3.setRow_far (by omega) cs, h4.setRow_far (by omega) cs, below_setRow h5 (by omega) cs⟩
def R6 (w wr : World) (g : Nat) (h : List (BitVec 32)) (l : List (BitVec 8)) (k : Nat) : Prop :=
  R4 w wr h l 64 ∧ Row wr g 58 (ws kk) ∧ Row wr (g + 1) 46 (ws (rounds h (sched l 64) k))
theorem R6.drewN {w wr : World} {g : Nat} {h : List (BitVec 32)} {l : List (BitVec 8)} {k : Nat} (hr : R6 w wr g h l k) (n : Nat) : R6 w (wr.drewN n) g h l k := ⟨hr.1.drewN n, hr.2.1, hr.2.2⟩
theorem addm (x y : BitVec 32) : (wd x + wd y) % 4294967296 = wd (x + y) := by rw [← IntKind.wrap_u32', add_wd]
theorem r4_at {w wr : World} {h : List (BitVec 32)} {l : List (BitVec 8)} {k : Nat} {v : Int} (hx : v = wd (if k < 16 then wordAt l k else next (sched l k) k)) (hr : R4 w wr h l k) :
    R4 w (wr.setCell ⟨w.heap.size + 1 + 1 + 1, k, none⟩ (.int .u32 v)).drew h l (k + 1) := by
  subst hx; exact r4_step rfl hr
theorem plus_comm (a b : List (BitVec 32)) : plus a b = plus b a := List.zipWith_comm_of_comm (fun x y => BitVec.add_comm x y)
theorem ref_rnd (a b c d e f g x p q : BitVec 32) : rnd [a, b, c, d, e, f, g, x] (p + q) = [x + (rr e 6 ^^^ rr e 11 ^^^ rr e 25) + (e &&& f ^^^ ~~~e &&& g) + p + q + ((rr a 2 ^^^ rr a 13 ^^^ rr a 22) + (a &&& b ^^^ a &&& c ^^^ b &&& c)), a, b, c, d + (x + (rr e 6 ^^^ rr e 11 ^^^ rr e 25) + (e &&& f ^^^ ~~~e &&& g) + p + q), e, f, g] := by
  simp [rnd, rnd1, rnd2, bs1, bs0, BitVec.add_assoc]
theorem R4.put {w wr : World} {h : List (BitVec 32)} {l : List (BitVec 8)} {k g i : Nat} (hr : R4 w wr h l k) (hg : w.heap.size + 1 + 1 + 1 < g) (v : Value) : R4 w (wr.setCell ⟨g, i, none⟩ v) h l k := by
  obtain ⟨h1, h2, h3, h4, h5⟩ := hr
  exact ⟨h1.far (show w.heap.size ≠ g by omega) v, h2.far (show w.heap.size + 1 ≠ g by omega) v, h3.far (show w.heap.size + 1 + 1 ≠ g by omega) v, h4.far (show w.heap.size + 1 + 1 + 1 ≠ g by omega) v, h5.setCell (show w.heap.size ≤ g by omega) v⟩
theorem R4.drew {w wr : World} {h : List (BitVec 32)} {l : List (BitVec 8)} {k : Nat} (hr : R4 w wr h l k) : R4 w wr.drew h l k := by
  obtain ⟨h1, h2, h3, h4, h5⟩ := hr
  exact ⟨h1, h2, h3, h4, h5.drew⟩
theorem r6_step {w wq : World} {G k : Nat} {h : List (BitVec 32)} {l : List (BitVec 8)} {a b c d e f g x y0 y4 : BitVec 32} (hq : R6 w wq G h l k) (hG : w.heap.size + 1 + 1 + 1 < G) (hs : rounds h (sched l 64) k = [a, b, c, d, e, f, g, x])
    (hr : rnd [a, b, c, d, e, f, g, x] (kk.getD k 0 + (sched l 64).getD k 0) = [y0, a, b, c, y4, e, f, g]) :
    R6 w ((((((((wq.setCell ⟨G + 1, 0, none⟩ (.int .u32 (wd y0))).setCell ⟨G + 1, 1, none⟩ (.int .u32 (wd a))).setCell ⟨G + 1, 2, none⟩ (.int .u32 (wd b))).setCell ⟨G + 1, 3, none⟩ (.int .u32 (wd c))).setCell ⟨G + 1, 4, none⟩ (.int .u32 (wd y4))).setCell ⟨G + 1, 5, none⟩ (.int .u32 (wd e))).setCell ⟨G + 1, 6, none⟩ (.int .u32 (wd f))).setCell ⟨G + 1, 7, none⟩ (.int .u32 (wd g))).drew G h l (k + 1) := by
  obtain ⟨h1, h2, h3⟩ := hq
  have hg : w.heap.size + 1 + 1 + 1 < G + 1 := by omega
  refine ⟨((((((((h1.put hg _).put hg _).put hg _).put hg _).put hg _).put hg _).put hg _).put hg _).drew, ?_, ?_⟩
  · have hne : ∀ i, G ≠ (⟨G + 1, i, none⟩ : Addr).block := fun i => by simp
    exact ((((((((h2.far (hne 0) _).far (hne 1) _).far (hne 2) _).far (hne 3) _).far (hne 4) _).far (hne 5) _).far (hne 6) _).far (hne 7) _).drew
  · rw [hs] at h3
    have t := ((((((((h3.put 0 (.int .u32 (wd y0))).put 1 (.int .u32 (wd a))).put 2 (.int .u32 (wd b))).put 3 (.int .u32 (wd c))).put 4 (.int .u32 (wd y4))).put 5 (.int .u32 (wd e))).put 6 (.int .u32 (wd f))).put 7 (.int .u32 (wd g))).drew
    rw [set_ws, set_ws, set_ws, set_ws, set_ws, set_ws, set_ws, set_ws] at t
    rw [rounds, hs, hr]
    exact t
set_option maxRecDepth 100000 in
set_option maxHeartbeats 1600000 in
theorem ref_turn (h : List (BitVec 32)) (l : List (BitVec 8)) (hh : h.length = 8) (hl : l.length = 64) (w : World) :
    Calls Tryd.prog 26 #[.agg (ws h), .agg (bs l)] w fun e w' => e = .returned (.agg (ws (turn h l))) ∧ Below w.heap.size w w' := by
  have HH := Lib.hid hh
  have HL := Lib.hid hl
  clear hh hl
  go_enter Tryd.func26, Tryd.ntmps26
  go_wp2
  go_loopw [6] (fun i wr => ∃ k : Nat, k ≤ 64 ∧ i = .int .i64 k ∧ R4 w wr h l k) (fun i _ => 64 - (intOf i).toNat)
  case atStart => exact ⟨0, by omega, rfl, r4_start⟩
  case round =>
    obtain ⟨k, hk, rfl, hR⟩ := hrel
    have HR := Lib.hid hR
    clear hR
    by_cases hlt : k < 64
    · by_cases h16 : k < 16
      · have hl := HL.out
        have c0 := HR.out.2.1.get (get_bs l (4 * k) (by omega))
        have c1 := HR.out.2.1.get (get_bs l (4 * k + 1) (by omega))
        have c2 := HR.out.2.1.get (get_bs l (4 * k + 2) (by omega))
        have c3 := HR.out.2.1.get (get_bs l (4 * k + 3) (by omega))
        have ct := HR.out.2.2.2.1.get (get_ws (sched l k) k (by rw [length_sched]; omega))
        have cf := HR.out.2.2.2.1.free k
        clear hl
        have z0 := i64_id (4 * (k : Int)) (by omega) (by omega)
        have z1 := i64_id (4 * (k : Int) + 1) (by omega) (by omega)
        have z2 := i64_id (4 * (k : Int) + 2) (by omega) (by omega)
        have z3 := i64_id (4 * (k : Int) + 3) (by omega) (by omega)
        have t0 : (4 * (k : Int)).toNat = 4 * k := by omega
        have t1 : (4 * (k : Int) + 1).toNat = 4 * k + 1 := by omega
        have t2 : (4 * (k : Int) + 2).toNat = 4 * k + 2 := by omega
        have t3 : (4 * (k : Int) + 3).toNat = 4 * k + 3 := by omega
        go_wp2
        go_region
        go_wp2
        go_roundw
        case rel => exact ⟨k + 1, by omega, by go_num, r4_step (by rw [if_pos h16]; simp [wordAt, word]) HR.out⟩
        case measure => simp [intOf]; omega
      · have c0 := HR.out.2.2.2.1.get (get_ws (sched l k) (k - 2) (by rw [length_sched]; omega))
        have c2 := HR.out.2.2.2.1.get (get_ws (sched l k) (k - 15) (by rw [length_sched]; omega))
        have z0 := i64_id ((k : Int) - 2) (by omega) (by omega)
        have z1 := i64_id ((k : Int) - 7) (by omega) (by omega)
        have z2 := i64_id ((k : Int) - 15) (by omega) (by omega)
        have z3 := i64_id ((k : Int) - 16) (by omega) (by omega)
        have t0 : ((k : Int) - 2).toNat = k - 2 := by omega
        have t1 : ((k : Int) - 7).toNat = k - 7 := by omega
        have t2 : ((k : Int) - 15).toNat = k - 15 := by omega
        have t3 : ((k : Int) - 16).toNat = k - 16 := by omega
        have b0 : (0 : Int) ≤ (k : Int) - 2 := by omega
        have b1 : (0 : Int) ≤ (k : Int) - 7 := by omega
        have b2 : (0 : Int) ≤ (k : Int) - 15 := by omega
        have b3 : (0 : Int) ≤ (k : Int) - 16 := by omega
        have d0 : (2 : Int) ≤ (k : Int) := by omega
        have d1 : (7 : Int) ≤ (k : Int) := by omega
        have d2 : (15 : Int) ≤ (k : Int) := by omega
        have d3 : (16 : Int) ≤ (k : Int) := by omega
        have f0 : (k : Int) - 2 < 64 := by omega
        have f1 : (k : Int) - 7 < 64 := by omega
        have f2 : (k : Int) - 15 < 64 := by omega
        have f3 : (k : Int) - 16 < 64 := by omega
        have f4 : (k : Int) < 64 := by omega
        have d16 : decide ((k : Int) < 16) = false := by simp; omega
        go_wp2_with fail
        go_quiet (fail)
        have HQ := Lib.hid (HR.out.drewN nq)
        clear c0 c2 HR
        generalize wr.drewN nq = wq at *
        have c1 := HQ.out.2.2.2.1.get (get_ws (sched l k) (k - 7) (by rw [length_sched]; omega))
        have c3 := HQ.out.2.2.2.1.get (get_ws (sched l k) (k - 16) (by rw [length_sched]; omega))
        have ct := HQ.out.2.2.2.1.get (get_ws (sched l k) k (by rw [length_sched]; omega))
        have cf := HQ.out.2.2.2.1.free k
        have m1 : ¬ k - 7 = k := by omega
        have m3 : ¬ k - 16 = k := by omega
        go_wp2_with fail
        go_region_held3 (fun W => W.cell? ⟨w.heap.size + 1 + 1 + 1, k - 7, none⟩ = some (.int .u32 (wd ((sched l k).getD (k - 7) 0))) ∧ W.cell? ⟨w.heap.size + 1 + 1 + 1, k - 16, none⟩ = some (.int .u32 (wd ((sched l k).getD (k - 16) 0)))) (first | exact ⟨far4 c1 m1, far4 c3 m3⟩ | exact ⟨c1, c3⟩ | go_keep)
          (first | (go_at_call 28; refine (ref_right _ _ _ (by decide) (by decide)).mono ?_; rintro e w' ⟨rfl, rfl⟩))
        go_wp2
        go_roundw
        case rel => exact ⟨k + 1, by omega, by go_num, r4_at (by rw [if_neg h16, xor_shr10, xor_shr3, addm, addm, addm]; rfl) HQ.out⟩
        case measure => simp [intOf]; omega
    · obtain rfl : k = 64 := by omega
      clear hlt hk
      go_wp2_with fail
      refine (ref_table wr).mono ?_
      rintro e wt ⟨rfl, hbt⟩
      have HT := Lib.hid (HR.out.call hbt)
      have hwt : w.heap.size + 1 + 1 + 1 < wt.heap.size := HT.out.2.2.2.1.lt
      have H33 : Hid ((Tryd.prog.info? 46).map (·.size) = some (ws h).size) := Lib.hid (by rw [size_ws, HH.out]; exact size_h)
      clear hbt HR
      go_wp2_with (first | (refine wpList_store_row rfl 58 _ _ rfl wt.heap.size (ws kk) rfl rfl 58 _ (Row.fresh _ _ _) size_w (by kernel_rfl) (one_ws _) ?_; rw [World.setRow_alloc_new]) | (refine wpList_load_row rfl 46 _ rfl w.heap.size rfl 46 (ws h) (0, 0) _ (HT.out.1.alloc _) Tryd.underlying46 rfl H33.out ?_) | (refine wpList_store_row rfl 46 _ _ rfl (wt.heap.size + 1) (ws h) rfl rfl 46 _ (row2b _ _ _ _) H33.out (by rw [size_ws, HH.out]; rfl) (one_ws _) ?_; rw [setRow_alloc2]))
      go_loopw [11] (fun i wr => ∃ k : Nat, k ≤ 64 ∧ i = .int .i64 k ∧ R6 w wr wt.heap.size h l k) (fun i _ => 64 - (intOf i).toNat)
      case atStart => exact ⟨0, by omega, rfl, (HT.out.alloc _).alloc _, (Row.fresh _ _ _).alloc _, row2b _ _ _ _⟩
      case round =>
        clear HT
        obtain ⟨k, hk, rfl, hR⟩ := hrel
        have HR := Lib.hid hR
        clear hR
        by_cases hlt : k < 64
        · obtain ⟨a, b, c, d, e, f, g, x, hs⟩ := list8 (rounds h (sched l 64) k) (by rw [length_rounds]; exact HH.out)
          have HS := Lib.hid hs
          have rs := HR.out.2.2
          rw [hs] at rs
          clear hs
          have c0 : wr.cell? ⟨wt.heap.size + 1, 0, none⟩ = some (.int .u32 (wd a)) := rs.get rfl
          have c1 : wr.cell? ⟨wt.heap.size + 1, 1, none⟩ = some (.int .u32 (wd b)) := rs.get rfl
          have c2 : wr.cell? ⟨wt.heap.size + 1, 2, none⟩ = some (.int .u32 (wd c)) := rs.get rfl
          have c4 : wr.cell? ⟨wt.heap.size + 1, 4, none⟩ = some (.int .u32 (wd e)) := rs.get rfl
          have c5 : wr.cell? ⟨wt.heap.size + 1, 5, none⟩ = some (.int .u32 (wd f)) := rs.get rfl
          have c6 : wr.cell? ⟨wt.heap.size + 1, 6, none⟩ = some (.int .u32 (wd g)) := rs.get rfl
          have f0 : (0 : Int) ≤ (k : Int) := by omega
          have f4 : (k : Int) < 64 := by omega
          go_wp2_with fail
          go_quiet (fail)
          have HQ := Lib.hid (HR.out.drewN nq)
          have rq : Row (wr.drewN nq) (wt.heap.size + 1) 46 (ws [a, b, c, d, e, f, g, x]) := rs
          clear c0 c1 c2 c4 c5 c6 HR rs
          generalize wr.drewN nq = wq at *
          have c7 : wq.cell? ⟨wt.heap.size + 1, 7, none⟩ = some (.int .u32 (wd x)) := rq.get rfl
          have ck := HQ.out.2.1.get (get_ws kk k (by rw [length_kk]; exact hlt))
          have cw := HQ.out.1.2.2.2.1.get (get_ws (sched l 64) k (by rw [length_sched]; exact hlt))
          go_wp2_with fail
          go_region_held3 (fun W => W.cell? ⟨wt.heap.size + 1, 7, none⟩ = some (.int .u32 (wd x)) ∧ W.cell? ⟨wt.heap.size, k, none⟩ = some (.int .u32 (wd (kk.getD k 0))) ∧ W.cell? ⟨w.heap.size + 1 + 1 + 1, k, none⟩ = some (.int .u32 (wd ((sched l 64).getD k 0)))) (first | exact ⟨c7, ck, cw⟩ | go_keep)
            (first | (go_at_call 28; refine (ref_right _ _ _ (by decide) (by decide)).mono ?_; rintro e w' ⟨rfl, rfl⟩))
          clear c7 ck cw
          have c0 : wq.cell? ⟨wt.heap.size + 1, 0, none⟩ = some (.int .u32 (wd a)) := rq.get rfl
          have q0 := rq.free 0
          have c1 : wq.cell? ⟨wt.heap.size + 1, 1, none⟩ = some (.int .u32 (wd b)) := rq.get rfl
          have q1 := rq.free 1
          have c2 : wq.cell? ⟨wt.heap.size + 1, 2, none⟩ = some (.int .u32 (wd c)) := rq.get rfl
          have q2 := rq.free 2
          have c3 : wq.cell? ⟨wt.heap.size + 1, 3, none⟩ = some (.int .u32 (wd d)) := rq.get rfl
          have q3 := rq.free 3
          have c4 : wq.cell? ⟨wt.heap.size + 1, 4, none⟩ = some (.int .u32 (wd e)) := rq.get rfl
          have q4 := rq.free 4
          have c5 : wq.cell? ⟨wt.heap.size + 1, 5, none⟩ = some (.int .u32 (wd f)) := rq.get rfl
          have q5 := rq.free 5
          have c6 : wq.cell? ⟨wt.heap.size + 1, 6, none⟩ = some (.int .u32 (wd g)) := rq.get rfl
          have q6 := rq.free 6
          have c7 : wq.cell? ⟨wt.heap.size + 1, 7, none⟩ = some (.int .u32 (wd x)) := rq.get rfl
          have q7 := rq.free 7
          go_wp2_with (first | (go_at_call 28; refine (ref_right _ _ _ (by decide) (by decide)).mono ?_; rintro e w' ⟨rfl, rfl⟩))
          go_roundw
          case rel =>
            exact ⟨k + 1, by omega, by go_num, r6_step HQ.out hwt HS.out (ref_rnd a b c d e f g x _ _)⟩
          case measure => simp [intOf]; omega
        · obtain rfl : k = 64 := by omega
          clear hlt hk
          have HV : Hid ((rounds h (sched l 64) 64).length = 8) := Lib.hid (by rw [length_rounds]; exact HH.out)
          have HF : Hid (turn h l = plus (rounds h (sched l 64) 64) h) := Lib.hid (plus_comm _ _)
          obtain ⟨⟨hr0, _, hr2, _, hbr⟩, _, hrv⟩ := HR.out
          clear HR
          generalize rounds h (sched l 64) 64 = v at *
          go_wp2
          go_loopw [20] (fun i wr => ∃ k : Nat, k ≤ 8 ∧ i = .int .i64 k ∧ Row wr w.heap.size 46 (ws h) ∧ Row wr (w.heap.size + 1 + 1) 46 (ws (zeros 8)) ∧ Row wr (wt.heap.size + 1) 46 (ws (part v h k)) ∧ Below w.heap.size w wr) (fun i _ => 8 - (intOf i).toNat)
          case atStart => exact ⟨0, by omega, rfl, hr0, hr2, by rw [part_zero]; exact hrv, hbr⟩
          case round =>
            clear hr0 hr2 hrv hbr
            obtain ⟨k, hk, rfl, hr0, hr2, hrv, hbr⟩ := hrel
            by_cases hlt : k < 8
            · have c0 := hrv.get (get_ws (part v h k) k (by rw [length_part v h k HV.out HH.out hk]; exact hlt))
              rw [part_get v h k HV.out HH.out hlt] at c0
              have cf := hrv.free k
              have c1 := hr0.get (get_ws h k (by rw [HH.out]; exact hlt))
              go_wp2
              go_region
              go_wp2
              go_roundw
              case rel =>
                refine ⟨k + 1, by omega, by go_num, (hr0.far (by simp; omega) _).drew, (hr2.far (by simp; omega) _).drew, ?_, (hbr.setCell (by simp; omega) _).drew⟩
                have h1 := (hrv.put k (.int .u32 (wd (v.getD k 0 + h.getD k 0)))).drew
                rw [set_ws, part_set v h k HV.out HH.out hlt] at h1
                exact h1
              case measure => simp [intOf]; omega
            · obtain rfl : k = 8 := by omega
              rw [part_all v h HV.out HH.out] at hrv
              have HS8 : Hid ((Tryd.prog.info? 46).map (·.size) = some (ws (plus v h)).size) := Lib.hid (by rw [size_ws, length_plus v h HV.out HH.out]; exact size_h)
              clear hlt hk hr0
              go_wp2_with (first | (refine wpList_load_row rfl 46 _ rfl (wt.heap.size + 1) rfl 46 (ws (plus v h)) (0, 0) _ hrv Tryd.underlying46 rfl HS8.out ?_) | (refine wpList_store_row rfl 46 _ _ rfl (w.heap.size + 1 + 1) (ws (plus v h)) rfl rfl 46 _ hr2 HS8.out (by rw [size_ws, size_ws, length_plus v h HV.out HH.out]; rfl) (one_ws _) ?_))
              rw [HF.out]
              exact bodyPost_ret (v := .agg (ws (plus v h))) (results_cell_row Tryd.results26 _ _ (w.heap.size + 1 + 1) 46 (ws (plus v h)) (0, 0) _ rfl (hr2.setRow _) Tryd.underlying46 rfl HS8.out) rfl ⟨rfl, below_setRow hbr (by omega) _⟩
end Go.Proofs.YtnfceejmkcohnaaDoor
