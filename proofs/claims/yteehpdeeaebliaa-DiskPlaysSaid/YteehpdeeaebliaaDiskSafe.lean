/- The statement DiskSafe: its walk. -/
import Derived.Test.YteehpdeeaebliaaDiskFuses
namespace Go.Proofs.Yteehpdeeaebliaa
open Go Go.RowKit
/- the writes of steps, on six sectors -/
def wr6 (x : StepD) : Nat × List (BitVec 8) := (modK x.i 6, blk x.v)
def want6 (k : Nat) (a : BitVec 8) (x : StepD × BitVec 8) : BitVec 8 := if x.2.getLsbD 0 && modK x.1.i 6 == k then x.1.v else a
def kept6 (zs : List (StepD × BitVec 8)) : List (Nat × List (BitVec 8)) := (((zs.map fun x => (wr6 x.1, x.2)).filter fun x => x.2.getLsbD 0).map (·.1))
theorem kept_wr6 (l : List StepD) (keep : List (BitVec 8)) : DiskM.kept (l.map wr6) keep = kept6 (l.zip keep) := by
  unfold DiskM.kept kept6
  rw [List.zip_map_left]; rfl
theorem put_want (k : Nat) : ∀ (zs : List (StepD × BitVec 8)) (ws : List (BitVec 8)), k < ws.length → ws.length = 6 →
    (DiskM.put (ws.map blk) (kept6 zs)).getD k [] = blk (zs.foldl (want6 k) (ws.getD k 0#8))
  | [], ws, hk, _ => by simp [kept6, DiskM.put, List.getD_eq_getElem?_getD, hk]
  | x :: zs, ws, hk, hw => by
    have hm := modK_lt x.1.i 6 (by decide)
    by_cases hx : x.2.getLsbD 0 = true
    · have e : kept6 (x :: zs) = wr6 x.1 :: kept6 zs := by simp [kept6, hx]
      rw [e]
      show (DiskM.put ((ws.map blk).set (modK x.1.i 6) (blk x.1.v)) (kept6 zs)).getD k [] = _
      rw [← List.map_set, put_want k zs (ws.set (modK x.1.i 6) x.1.v) (by rw [List.length_set]; exact hk) (by rw [List.length_set]; exact hw)]
      congr 1
      simp only [List.foldl_cons]
      congr 1
      unfold want6
      rw [hx, Bool.true_and]
      by_cases hj : modK x.1.i 6 = k
      · rw [if_pos (by rw [hj]; exact beq_self_eq_true k), hj]; simp [List.getD_eq_getElem?_getD, hk]
      · rw [if_neg (by simpa using hj)]; simp [List.getD_eq_getElem?_getD, List.getElem?_set_ne hj]
    · have hx' : x.2.getLsbD 0 = false := by simpa using hx
      have e : kept6 (x :: zs) = kept6 zs := by
        unfold kept6
        rw [List.map_cons, List.filter_cons_of_neg (by simpa using hx')]
      rw [e, put_want k zs ws hk hw]
      simp only [List.foldl_cons]
      congr 2
      unfold want6
      rw [hx', Bool.false_and, if_neg (by decide)]
theorem zero6 : (#[.int .u8 0, .int .u8 0, .int .u8 0, .int .u8 0, .int .u8 0, .int .u8 0] : Array Value) = bs (List.replicate 6 0#8) := by kernel_rfl
theorem zip_take {α β : Type} {l : List α} {q : List β} {i : Nat} {x : α} {y : β} (hx : l[i]? = some x) (hy : q[i]? = some y) : (l.zip q).take (i + 1) = (l.zip q).take i ++ [(x, y)] := by
  have h : (l.zip q)[i]? = some (x, y) := by rw [List.getElem?_zip_eq_some]; exact ⟨hx, hy⟩
  rw [List.take_add_one, h]; rfl
theorem step_there {w W : World} {b o n c k : Nat} {l : List StepD} {x : StepD} (h : rdSl 4 rdStep w [.slice (some ⟨b, o, none⟩) n c] l) (hb : Below w.heap.size w W) (hx : l[k]? = some x) : StepAt' W b (o + k * 4) x := by
  obtain ⟨b', o', e, _, hs⟩ := steps_at (stays_steps w.heap.size w W _ _ h hb (Nat.le_refl _)) hx
  injection e with e
  injection e with e1 e2 _
  subst e1 e2
  exact hs
theorem bs_get {ws : List (BitVec 8)} {j : Nat} (h : j < ws.length) : (bs ws)[j]? = some (.int .u8 (bd (ws.getD j 0#8))) := by
  simp [bs, List.getD_eq_getElem?_getD, h]
theorem slice_at {w : World} {A : Option Addr} {m c j : Nat} {q : List (BitVec 8)} {y : BitVec 8} (h : Slice w (.slice A m c) q) (hy : q[j]? = some y) : ∃ b o, A = some ⟨b, o, none⟩ ∧ w.cell? ⟨b, o + j, none⟩ = some (.int .u8 (bd y)) := by
  obtain ⟨A', c', e, _, h⟩ := h
  injection e with e _ _
  subst e
  obtain ⟨b, o, h1, _, h2⟩ := h (by rintro rfl; simp at hy)
  exact ⟨b, o, h1, h2 j y hy⟩
theorem want6_even {k : Nat} {a : BitVec 8} {x : StepD} {y : BitVec 8} (h : y.getLsbD 0 = false) : want6 k a (x, y) = a := by unfold want6; rw [h, Bool.false_and, if_neg (by decide)]
theorem want6_other {k j : Nat} {a : BitVec 8} {x : StepD} {y : BitVec 8} (hj : modK x.i 6 = j) (h : ¬ j = k) : want6 k a (x, y) = a := by unfold want6; rw [hj, beq_eq_false_iff_ne.2 h, Bool.and_false, if_neg (by decide)]
theorem want6_odd {k : Nat} {a : BitVec 8} {x : StepD} {y : BitVec 8} (h : y.getLsbD 0 = true) (hj : modK x.i 6 = k) : want6 k a (x, y) = x.v := by unfold want6; rw [h, hj, beq_self_eq_true, Bool.and_true, if_pos rfl]
structure SafRel (D : DiskOps) (base : Nat) (p : Value) (gw : Nat) (w wr : World) (M : DiskM) (F : Nat → Prop) (ws : List (BitVec 8)) : Prop where
  at_ : D.A base wr p M F
  row : Row wr gw 54 (bs ws)
  far : ¬ F gw
  wl : ws.length = 6
  len : M.s.length = 6
  f : M.f = -1
  down : M.down = false
  below : Below base w wr
  bse : base ≤ wr.heap.size
  gb : base ≤ gw
section
variable {D : DiskOps} {base gw : Nat} {p : Value} {w wr wr' : World} {M : DiskM} {F : Nat → Prop} {ws : List (BitVec 8)}
theorem SafRel.stuck (h : SafRel D base p gw w wr M F ws) : M.stuck = false := by unfold DiskM.stuck; rw [h.down, h.f]; rfl
theorem SafRel.burnt (h : SafRel D base p gw w wr M F ws) : M.burnt.f = -1 := by unfold DiskM.burnt; rw [h.f]; rfl
theorem SafRel.fRes (h : SafRel D base p gw w wr M F ws) : M.fRes = (0, M.flushed) := by unfold DiskM.fRes; rw [h.stuck]; rfl
theorem SafRel.has (h : SafRel D base p gw w wr M F ws) {j : Nat} (hj : j < 6) : M.has (j : Int) = true := by
  unfold DiskM.has; rw [h.len, decide_eq_true (by omega), decide_eq_true (by omega)]; rfl
theorem SafRel.wRes (h : SafRel D base p gw w wr M F ws) {j : Nat} (hj : j < 6) (b : List (BitVec 8)) : M.wRes (j : Int) b = (0, M.wrote j b) := by
  unfold DiskM.wRes; rw [h.has hj, h.stuck]; rfl
theorem SafRel.rRes (h : SafRel D base p gw w wr M F ws) {j : Nat} (hj : j < 6) : M.rRes (j : Int) = (M.now j, 0) := by
  unfold DiskM.rRes; rw [h.has hj, h.down]; rfl
theorem SafRel.still (h : SafRel D base p gw w wr M F ws) (hb : Below wr.heap.size wr wr') : SafRel D base p gw w wr' M F ws :=
  ⟨D.still h.at_ hb, h.row.call hb, h.far, h.wl, h.len, h.f, h.down, h.below.trans (hb.mono h.bse), Nat.le_trans h.bse hb.size, h.gb⟩
theorem SafRel.acted (h : SafRel D base p gw w wr M F ws) {M' : DiskM} {F' : Nat → Prop} (hA : D.A base wr' p M' F') (hC : Chg F wr wr') (hF : ∀ i, F' i → F i ∨ wr.heap.size ≤ i) (hs : M'.s.length = 6) (hf : M'.f = -1) (hd : M'.down = false) : SafRel D base p gw w wr' M' F' ws :=
  ⟨hA, h.row.chg hC h.far, fun hg => by rcases hF gw hg with h1 | h1; exact h.far h1; have := h.row.lt; omega, h.wl, hs, hf, hd, h.below.trans (acts_below (D.lt h.at_) hC h.bse), Nat.le_trans h.bse hC.size, h.gb⟩
theorem SafRel.set (h : SafRel D base p gw w wr M F ws) (j : Nat) (v : BitVec 8) : SafRel D base p gw w (wr.setCell ⟨gw, j, none⟩ (.int .u8 (bd v))) M F (ws.set j v) := by
  have hk := Chg.one wr gw j (.int .u8 (bd v))
  refine ⟨D.keep h.at_ hk (fun i hi e => h.far (by rw [← e]; exact hi)), ?_, h.far, by rw [List.length_set]; exact h.wl, h.len, h.f, h.down, h.below.trans (hk.below (fun i hi => by rw [hi]; exact h.gb) h.bse), Nat.le_trans h.bse hk.size, h.gb⟩
  have := h.row.put j (.int .u8 (bd v))
  rwa [show (bs ws).setIfInBounds j (.int .u8 (bd v)) = bs (ws.set j v) by simp [bs, List.map_set]] at this
theorem SafRel.write (h : SafRel D base p gw w wr M F ws) {j : Nat} (b : List (BitVec 8)) (hb : b.length = 32) (hj : j < 6) (hl : M.l.length ≤ few) : Calls Try.prog 12 #[p, .int .i64 (j : Int), .agg (bs b)] wr fun e w' => e = .returned (.int .i64 0) ∧ ∃ F', SafRel D base p gw w w' (M.wrote j b) F' ws := by
  refine (D.write' (j : Int) b h.at_ hb hl (by omega) (M.wrote j b) 0 (by rw [h.wRes hj]) (by rw [h.wRes hj])).mono ?_
  rintro e w' ⟨rfl, F', hA, hC, hF⟩
  exact ⟨rfl, F', h.acted hA hC hF h.len h.burnt h.down⟩
theorem SafRel.flush (h : SafRel D base p gw w wr M F ws) (hl : M.l.length ≤ few) : Calls Try.prog 17 #[p] wr fun e w' => e = .returned (.int .i64 0) ∧ ∃ F', SafRel D base p gw w w' M.flushed F' ws := by
  refine (D.flush' h.at_ hl M.flushed 0 (by rw [h.fRes]) (by rw [h.fRes])).mono ?_
  rintro e w' ⟨rfl, F', hA, hC, hF⟩
  exact ⟨rfl, F', h.acted hA hC hF (by show (DiskM.put M.s M.l).length = 6; rw [DiskM.length_put]; exact h.len) h.burnt h.down⟩
end
set_option maxRecDepth 20000 in
set_option maxHeartbeats 3200000 in
theorem safe_walk (D : DiskOps) (A1 : Option Addr) (n1 c1 : Nat) (l1 : List StepD) (A2 : Option Addr) (n2 c2 : Nat) (l2 : List StepD) (A3 : Option Addr) (q : List (BitVec 8)) (m c3 : Nat) (hm : q.length = m) (w : World) (h1 : rdSl 4 rdStep w [.slice A1 n1 c1] l1) (h2 : rdSl 4 rdStep w [.slice A2 n2 c2] l2) (h3 : Slice w (.slice A3 m c3) q) (h3n : A3 = none → c3 = 0) :
    Calls Try.prog 4 #[.slice A1 n1 c1, .slice A2 n2 c2, .slice A3 m c3] w fun e w' => e = .returned (.bool true) ∧ Below w.heap.size w w' := by
  have H1 := Lib.hid h1
  have H2 := Lib.hid h2
  have H3 := Lib.hid h3
  have H3n := Lib.hid h3n
  have HM := Lib.hid hm
  have HN1 : Hid (l1.length = n1) := Lib.hid (by obtain ⟨_, _, h1, _⟩ := h1; injection h1 with h1 _; injection h1 with _ h1 _; exact h1.symm)
  have HN2 : Hid (l2.length = n2) := Lib.hid (by obtain ⟨_, _, h1, _⟩ := h2; injection h1 with h1 _; injection h1 with _ h1 _; exact h1.symm)
  have C0 := D.new w.heap.size w 6 (Nat.le_refl _) (by decide)
  rw [makes_yes _ _ _ _ (by decide)] at C0
  clear h1 h2 h3 h3n hm
  go_enter Try.func4, Try.ntmps4
  go_wp2_with fail
  refine C0.mono ?_
  rintro e w1 ⟨g, F, rfl, hA, hb1, hF⟩
  have HA := Lib.hid hA
  have HF := Lib.hid hF
  have HB1 := Lib.hid hb1
  have H1' := Lib.hid (stays_steps w.heap.size w w1 _ _ H1.out hb1 (Nat.le_refl _))
  have H2' := Lib.hid (stays_steps w.heap.size w w1 _ _ H2.out hb1 (Nat.le_refl _))
  clear C0 hA hF hb1
  go_wp2_with fail
  refine (fairD_any w1 A1 n1 c1 l1 H1'.out).mono ?_
  rintro e w2 ⟨b, rfl, hb, rfl⟩
  cases b with
  | false =>
    clear hb
    go_wp2_with fail
    refine (dwakes_any D w1).mono ?_
    rintro e w2 ⟨rfl, hb2⟩
    go_wp2_with fail
    go_ret
    exact ⟨rfl, HB1.out.trans (hb2.mono HB1.out.size)⟩
  | true =>
    have HN1k := Lib.hid (hb rfl).1
    clear hb
    go_wp2_with fail
    refine (fairD_any w1 A2 n2 c2 l2 H2'.out).mono ?_
    rintro e w2 ⟨b, rfl, hb, rfl⟩
    cases b with
    | false =>
      clear hb
      go_wp2_with fail
      refine (dwakes_any D w1).mono ?_
      rintro e w2 ⟨rfl, hb2⟩
      go_wp2_with fail
      go_ret
      exact ⟨rfl, HB1.out.trans (hb2.mono HB1.out.size)⟩
    | true =>
      have HN2k := Lib.hid (hb rfl).1
      clear hb
      by_cases hbig : 300 < m
      · have hd : decide ((300 : Int) < (m : Int)) = true := decide_eq_true (by omega)
        go_wp2_with fail
        refine (dwakes_any D w1).mono ?_
        rintro e w2 ⟨rfl, hb2⟩
        go_wp2_with fail
        go_ret
        exact ⟨rfl, HB1.out.trans (hb2.mono HB1.out.size)⟩
      · have hd : decide ((300 : Int) < (m : Int)) = false := decide_eq_false (by omega)
        have HS0 := Same.alloc w1 (.cells (bs (List.replicate 6 0#8)) 54)
        have hlt1 := D.lt HA.out
        have R0 : Hid (SafRel D w.heap.size (.pointer (some ⟨g, 0, none⟩)) w1.heap.size w (w1.alloc (.cells (bs (List.replicate 6 0#8)) 54)) (DiskM.new 6) F (List.replicate 6 0#8)) :=
          Lib.hid ⟨D.still HA.out HS0, Row.fresh _ _ _, (fun hg => by have := (hlt1 _ hg).2; omega), rfl, rfl, rfl, rfl, HB1.out.trans (HS0.mono HB1.out.size), Nat.le_trans HB1.out.size HS0.size, HB1.out.size⟩
        have hm300 := Lib.hid hbig
        clear HS0 hlt1 HA HF hbig
        go_wp2_with fail
        rw [zero6]
        clear hd
        go_loopw [10] (fun i wr => ∃ k : Nat, k ≤ n1 ∧ i = .int .i64 k ∧ ∃ M F ws, SafRel D w.heap.size (.pointer (some ⟨g, 0, none⟩)) w1.heap.size w wr M F ws ∧ rv M = ws.map blk ∧ M.l.length ≤ k) (fun i _ => n1 - (intOf i).toNat)
        case atStart => exact ⟨0, by omega, rfl, _, _, _, R0.out, rfl, Nat.le_refl _⟩
        case round =>
          obtain ⟨k, hk, rfl, M, F', ws, hR, hv, hl⟩ := hrel
          have HR := Lib.hid hR
          have HV := Lib.hid hv
          have HL := Lib.hid hl
          have H1k := Lib.hid (stays_steps w.heap.size w wr _ _ H1.out hR.below (Nat.le_refl _))
          have HK200 := HN1k.out
          rw [HN1.out] at HK200
          clear R0 hR hv hl
          by_cases hlt : k < n1
          · have hkl : k < l1.length := by rw [HN1.out]; exact hlt
            obtain ⟨x, hx⟩ : ∃ x, l1[k]? = some x := ⟨_, List.getElem?_eq_getElem hkl⟩
            obtain ⟨b, o, rfl, _, hs⟩ := steps_at H1k.out hx
            have HS := Lib.hid hs
            have HX := Lib.hid hx
            have ci := hs.i
            have hk0 : (0 : Int) ≤ (k : Int) := by omega
            have hk1 : (k : Int) < (n1 : Int) := by omega
            have CM := mod_at x.i 6 6 wr rfl (by decide) (by decide)
            obtain ⟨j, hj⟩ : ∃ j, modK x.i 6 = j := ⟨_, rfl⟩
            have hj6 : j < 6 := by rw [← hj]; exact modK_lt x.i 6 (by decide)
            have HJ6 := Lib.hid hj6
            rw [hj] at CM
            clear hs hx hkl H1' H1k hj
            go_wp2_with fail
            refine CM.mono ?_
            rintro e w2 ⟨rfl, rfl⟩
            have cv := HS.out.v
            clear CM ci
            go_wp2_with fail
            refine (fill_any x.v wr).mono ?_
            rintro e w3 ⟨rfl, hb3⟩
            have HR3 := Lib.hid (HR.out.still hb3)
            have HS3 := Lib.hid (HS.out.still hb3)
            have hj0 : (0 : Int) ≤ (j : Int) := by omega
            have hj1 : (j : Int) < 6 := by omega
            clear cv hb3 HR HS
            go_wp2_with fail
            refine (HR3.out.write (j := j) (blk x.v) (length_blk _) HJ6.out (by have := HL.out; unfold few; omega)).mono ?_
            rintro e w4 ⟨rfl, F4, hR4⟩
            have HR4 := Lib.hid hR4
            have cv := (step_there H1.out hR4.below HX.out).v
            have cf := hR4.row.free j
            have cc := hR4.row.get (bs_get (j := j) (by rw [hR4.wl]; exact HJ6.out))
            have HV4 : Hid (rv (M.wrote j (blk x.v)) = (ws.set j x.v).map blk) := Lib.hid (by show DiskM.put M.s (M.l ++ [(j, blk x.v)]) = _; rw [DiskM.put_snoc, show DiskM.put M.s M.l = ws.map blk from HV.out, List.map_set])
            have HL4 : Hid ((M.wrote j (blk x.v)).l.length ≤ k + 1) := Lib.hid (by show (M.l ++ [(j, blk x.v)]).length ≤ k + 1; rw [List.length_append]; exact Nat.add_le_add HL.out (Nat.le_refl 1))
            clear hR4 HR3 HS3
            go_wp2_with fail
            exact ⟨⟨k + 1, by omega, by go_num, _, _, _, HR4.out.set j x.v, HV4.out, HL4.out⟩, by simp [intOf]; omega⟩
          · obtain rfl : k = n1 := by omega
            clear H1' H1k H1 hlt hk
            go_wp2_with fail
            refine (HR.out.flush (by have := HL.out; unfold few; omega)).mono ?_
            rintro e w2 ⟨rfl, F2, hR2⟩
            have CL := D.loose _ _ _ _ _ hR2.at_ (by show 0 ≤ few; unfold few; omega)
            have HR2 := Lib.hid hR2
            have HSm : Hid (M.flushed.s = ws.map blk) := Lib.hid HV.out
            have HLm : Hid (M.flushed.l = (l2.take 0).map wr6) := Lib.hid rfl
            clear HR HV HL hR2 HN1k HK200
            go_wp2_with fail
            refine CL.mono ?_
            rintro e w3 ⟨rfl, hb3⟩
            have HR3 := Lib.hid (HR2.out.still hb3)
            obtain ⟨M0, hM0⟩ : ∃ M0, M.flushed = M0 := ⟨_, rfl⟩
            rw [hM0] at HR3 HSm HLm
            clear CL HR2 hb3 hM0
            go_wp2_with fail
            go_loopw [12] (fun i wr => ∃ k : Nat, k ≤ n2 ∧ i = .int .i64 k ∧ ∃ M F, SafRel D w.heap.size (.pointer (some ⟨g, 0, none⟩)) w1.heap.size w wr M F ws ∧ M.s = ws.map blk ∧ M.l = (l2.take k).map wr6) (fun i _ => n2 - (intOf i).toNat)
            case atStart => exact ⟨0, by omega, rfl, _, _, HR3.out, HSm.out, HLm.out⟩
            case round =>
              obtain ⟨k, hk, rfl, M, F', hR, hs2, hl⟩ := hrel
              have HR := Lib.hid hR
              have HV := Lib.hid hs2
              have HL := Lib.hid hl
              have H2k := Lib.hid (stays_steps w.heap.size w wr _ _ H2.out hR.below (Nat.le_refl _))
              have HK200 := HN2k.out
              rw [HN2.out] at HK200
              have hlen : M.l.length ≤ k := by rw [hl, List.length_map, List.length_take]; omega
              have HLN := Lib.hid hlen
              clear HR3 HSm HLm hR hs2 hl hlen
              by_cases hlt : k < n2
              · have hkl : k < l2.length := by rw [HN2.out]; exact hlt
                obtain ⟨x, hx⟩ : ∃ x, l2[k]? = some x := ⟨_, List.getElem?_eq_getElem hkl⟩
                obtain ⟨b, o, rfl, _, hs⟩ := steps_at H2k.out hx
                have HS := Lib.hid hs
                have HX := Lib.hid hx
                have hk0 : (0 : Int) ≤ (k : Int) := by omega
                have hk1 : (k : Int) < (n2 : Int) := by omega
                obtain ⟨j, hj⟩ : ∃ j, modK x.i 6 = j := ⟨_, rfl⟩
                have HJ := Lib.hid hj
                have HJ6 : Hid (j < 6) := Lib.hid (by rw [← hj]; exact modK_lt x.i 6 (by decide))
                clear hs hx hkl H2' H2k hj
                go_wp2_with fail
                have hF0 : Wl [fun W => SafRel D w.heap.size (.pointer (some ⟨g, 0, none⟩)) w1.heap.size w W M F' ws ∧ StepAt' W b (o + k * 4) x, fun W => ∃ F2, SafRel D w.heap.size (.pointer (some ⟨g, 0, none⟩)) w1.heap.size w W (M.wrote j (blk x.v)) F2 ws] 0 wr.drew := ⟨HR.out.still (Below.refl _ _).drew, HS.out.still (Below.refl _ _).drew⟩
                refine wp_region_phs [is (.pointer (some ⟨g, 0, none⟩)), is (.slice (some ⟨b, o, none⟩) n2 c2), is (.int .i64 (k : Int)), is (.pointer (some ⟨b, o + k * 4, none⟩)), is (.pointer (some ⟨b, o + k * 4 + 1, none⟩)), is (.int .i64 x.i), is (.int .i64 (j : Int)), is (.slice (some ⟨b, o, none⟩) n2 c2), is (.int .i64 (k : Int)), is (.pointer (some ⟨b, o + k * 4, none⟩)), is (.pointer (some ⟨b, o + k * 4 + 2, none⟩)), is (.int .u8 (bd x.v)), is (.agg (bs (blk x.v))), is (.int .i64 0), is (.bool false)] [true, true, true, true, true, true, true, true, true, true, true, true, true, true, true] [(fun W => SafRel D w.heap.size (.pointer (some ⟨g, 0, none⟩)) w1.heap.size w W M F' ws ∧ StepAt' W b (o + k * 4) x), (fun W => ∃ F2, SafRel D w.heap.size (.pointer (some ⟨g, 0, none⟩)) w1.heap.size w W (M.wrote j (blk x.v)) F2 ws)] [false, false, false, false, false, false, false, false, false, false, false, false, false, true, false] [some 0, some 0, some 0, some 0, some 0, some 0, some 0, some 0, some 0, some 0, some 0, some 0, some 0, some 0, some 1] [some 95, some 96, some 97, some 98, some 99, some 100, some 101, some 102, some 103, some 104, some 105, some 106, some 107, some 108, some 109] 15 1 (fun _ => true) rfl rfl (by kernel_rfl) (by kernel_rfl) (by kernel_rfl) (by kernel_rfl) ?_ ?_ ?_ ?_ ?_ ?_
                · repeat first | exact wok_nil | refine wok_cons (by first | exact fun _ _ h k => ⟨h.1.still k, h.2.still k⟩ | exact fun _ _ h k => ⟨h.choose, h.choose_spec.still k⟩) ?_
                · repeat first | exact vok_nil | refine vok_rig (by first | exact fun _ _ _ h => h) ?_ | refine vok_soft (by first | exact fun _ _ _ h _ => h) ?_
                · exact hF0
                · repeat first | exact all_end (by decide) | refine all_cons (by first | exact rfl | exact ⟨rfl, fun _ _ h => h⟩) ?_
                · refine allp_mild 0 rfl rfl rfl (fun a x_ W hout hin hP => ?_) ?_
                  · have e7 : a.tmps[7]? = some (.pointer (some ⟨g, 0, none⟩)) := (hout 7 (by kernel_rfl)).trans rfl
                    exact does_move rfl e7 ⟨Same.refl _, rfl⟩
                  refine allp_mild 0 rfl rfl rfl (fun a x_ W hout hin hP => ?_) ?_
                  · have e1 : a.tmps[1]? = some (.slice (some ⟨b, o, none⟩) n2 c2) := (hout 1 (by kernel_rfl)).trans rfl
                    exact does_move rfl e1 ⟨Same.refl _, rfl⟩
                  refine allp_mild 0 rfl rfl rfl (fun a x_ W hout hin hP => ?_) ?_
                  · have e12 : a.tmps[12]? = some (.int .i64 (k : Int)) := (hout 12 (by kernel_rfl)).trans rfl
                    exact does_move rfl e12 ⟨Same.refl _, rfl⟩
                  refine allp_mild 0 rfl rfl rfl (fun a x_ W hout hin hP => ?_) ?_
                  · have e96 := hin.is 1 96 (by kernel_rfl) (by decide) (by kernel_rfl) (by kernel_rfl) _ rfl
                    have e97 := hin.is 2 97 (by kernel_rfl) (by decide) (by kernel_rfl) (by kernel_rfl) _ rfl
                    clear hin hout
                    intro K Q hK
                    go_simp
                    exact hK _ _ ⟨Same.refl _, rfl⟩
                  refine allp_mild 0 rfl rfl rfl (fun a x_ W hout hin hP => ?_) ?_
                  · have e98 := hin.is 3 98 (by kernel_rfl) (by decide) (by kernel_rfl) (by kernel_rfl) _ rfl
                    clear hin hout
                    intro K Q hK
                    go_simp
                    exact hK _ _ ⟨Same.refl _, rfl⟩
                  refine allp_mild 0 rfl rfl rfl (fun a x_ W hout hin hP => ?_) ?_
                  · have e99 := hin.is 4 99 (by kernel_rfl) (by decide) (by kernel_rfl) (by kernel_rfl) _ rfl
                    have hc := hP.2.i
                    clear hP
                    clear hin hout
                    intro K0 Q hK
                    go_simp
                    exact hK _ _ ⟨Same.refl _, rfl⟩
                  refine allp_mild 0 rfl rfl rfl (fun a x_ W hout hin hP => ?_) ?_
                  · have e100 := hin.is 5 100 (by kernel_rfl) (by decide) (by kernel_rfl) (by kernel_rfl) _ rfl
                    clear hP
                    clear hin hout
                    intro K0 Q hK
                    go_simp
                    have C := mod_at x.i 6 6 W rfl (by decide) (by decide)
                    rw [HJ.out] at C
                    refine C.mono ?_
                    rintro e W' ⟨rfl, rfl⟩
                    exact hK _ _ ⟨Same.refl _, rfl⟩
                  refine allp_mild 0 rfl rfl rfl (fun a x_ W hout hin hP => ?_) ?_
                  · have e1 : a.tmps[1]? = some (.slice (some ⟨b, o, none⟩) n2 c2) := (hout 1 (by kernel_rfl)).trans rfl
                    exact does_move rfl e1 ⟨Same.refl _, rfl⟩
                  refine allp_mild 0 rfl rfl rfl (fun a x_ W hout hin hP => ?_) ?_
                  · have e12 : a.tmps[12]? = some (.int .i64 (k : Int)) := (hout 12 (by kernel_rfl)).trans rfl
                    exact does_move rfl e12 ⟨Same.refl _, rfl⟩
                  refine allp_mild 0 rfl rfl rfl (fun a x_ W hout hin hP => ?_) ?_
                  · have e102 := hin.is 7 102 (by kernel_rfl) (by decide) (by kernel_rfl) (by kernel_rfl) _ rfl
                    have e103 := hin.is 8 103 (by kernel_rfl) (by decide) (by kernel_rfl) (by kernel_rfl) _ rfl
                    clear hin hout
                    intro K Q hK
                    go_simp
                    exact hK _ _ ⟨Same.refl _, rfl⟩
                  refine allp_mild 0 rfl rfl rfl (fun a x_ W hout hin hP => ?_) ?_
                  · have e104 := hin.is 9 104 (by kernel_rfl) (by decide) (by kernel_rfl) (by kernel_rfl) _ rfl
                    clear hin hout
                    intro K Q hK
                    go_simp
                    exact hK _ _ ⟨Same.refl _, rfl⟩
                  refine allp_mild 0 rfl rfl rfl (fun a x_ W hout hin hP => ?_) ?_
                  · have e105 := hin.is 10 105 (by kernel_rfl) (by decide) (by kernel_rfl) (by kernel_rfl) _ rfl
                    have hc := hP.2.v
                    clear hP
                    clear hin hout
                    intro K0 Q hK
                    go_simp
                    exact hK _ _ ⟨Same.refl _, rfl⟩
                  refine allp_mild 0 rfl rfl rfl (fun a x_ W hout hin hP => ?_) ?_
                  · have e106 := hin.is 11 106 (by kernel_rfl) (by decide) (by kernel_rfl) (by kernel_rfl) _ rfl
                    clear hP
                    clear hin hout
                    intro K0 Q hK
                    go_simp
                    refine (fill_any x.v W).mono ?_
                    rintro e W' ⟨rfl, hb⟩
                    exact hK _ _ ⟨hb, rfl⟩
                  refine allp_wild 0 rfl rfl rfl (fun a x_ W hout hin hP => ?_) ?_
                  · have e95 := hin.is 0 95 (by kernel_rfl) (by decide) (by kernel_rfl) (by kernel_rfl) _ rfl
                    have e101 := hin.is 6 101 (by kernel_rfl) (by decide) (by kernel_rfl) (by kernel_rfl) _ rfl
                    have e107 := hin.is 12 107 (by kernel_rfl) (by decide) (by kernel_rfl) (by kernel_rfl) _ rfl
                    have hR := hP.1
                    clear hP
                    clear hin hout
                    intro K0 Q hK
                    go_simp
                    refine (hR.write (j := j) (blk x.v) (length_blk _) HJ6.out (by have := HLN.out; unfold few; omega)).mono ?_
                    rintro e W' ⟨rfl, hF⟩
                    exact hK _ _ ⟨hF, rfl⟩
                  refine allp_mild 1 rfl rfl rfl (fun a x_ W hout hin hP => ?_) ?_
                  · have e108 := hin.is 13 108 (by kernel_rfl) (by decide) (by kernel_rfl) (by kernel_rfl) _ rfl
                    clear hin hout
                    intro K Q hK
                    go_simp
                    exact hK _ _ ⟨Same.refl _, rfl⟩
                  exact all_end (by decide)
                · intro x_ W hP hV
                  have h14 : x_ 14 = .bool false := hV 14 (by decide) (.inl (by kernel_rfl))
                  have HP := Lib.hid hP
                  clear hV hP
                  simp only [putL, Act.put, List.setIfInBounds_toArray, List.set_cons_succ, List.set_cons_zero, h14]
                  refine wpAnyH_done (by kernel_rfl) ?_ _
                  obtain ⟨F2, hR2⟩ := HP.out
                  have HR2 := Lib.hid hR2
                  clear HP hR2 h14
                  go_wp2_with fail
                  exact ⟨⟨k + 1, by omega, by go_num, _, _, HR2.out, HV.out, by show M.l ++ [(j, blk x.v)] = _; rw [List.take_add_one, HX.out, HL.out, List.map_append]; show _ = _ ++ [wr6 x]; unfold wr6; rw [HJ.out]⟩, by simp [intOf]; omega⟩
              · obtain rfl : k = n2 := by omega
                have hm' : m ≤ 300 := by have := hm300.out; omega
                have HS3 := Lib.hid (Slice.below (Slice.below H3.out HR.out.below (Nat.le_refl _)) ((Below.refl wr.heap.size wr).alloc (Nat.le_refl _) (.cells #[] 5)) (Nat.le_refl _))
                have HT2 : Hid (l2.take k = l2) := Lib.hid (by rw [← HN2.out]; exact List.take_length)
                clear hlt hk H2k H2'
                go_wp2_with (first | (at_builtin; refine wpList_append_slice rfl (.tmp 111) (.tmp 112) rfl wr.heap.size _ 0 [] rfl (own_empty wr) A3 m c3 q rfl HS3.out H3n.out (by omega) (by simp) ?_; intro kv w4 own1 hb4; simp only [Nat.zero_add, List.nil_append] at own1; have hb14 := Lib.hid (((Below.refl wr.heap.size wr).alloc (Nat.le_refl _) (.cells #[] 5)).trans hb4); rw [← HM.out] at own1; have HO := Lib.hid own1; clear own1 hb4))
                have HR4 := Lib.hid (HR.out.still hb14.out)
                have CU := D.up _ _ _ M F' kv q HR4.out.at_ (by have := HLN.out; unfold few; omega) (own_slice HO.out) (by rw [HM.out]; unfold few; omega) (fun k' hk' hF' => by have h1 := (HO.out.lt k' hk').1; have h2 := (D.lt HR.out.at_ k' hF').2; omega)
                refine CU.mono ?_
                rintro e w5 ⟨rfl, F5, hA5, hC5, hF5⟩
                have HR5 := Lib.hid (HR4.out.acted hA5 hC5 hF5 (by show (DiskM.put M.s _).length = 6; rw [DiskM.length_put]; exact HR4.out.len) rfl rfl)
                have HW : Hid (∀ k' < 6, (M.upped q).now k' = blk ((l2.zip q).foldl (want6 k') (ws.getD k' 0#8))) := Lib.hid (fun k' hk' => by
                  show (DiskM.put M.s (DiskM.kept M.l q)).getD k' [] = _
                  rw [HV.out, HL.out, HT2.out, kept_wr6, put_want k' _ ws (by rw [HR4.out.wl]; exact hk') HR4.out.wl])
                have HMl : Hid ((M.upped q).l.length ≤ few) := Lib.hid (Nat.zero_le _)
                obtain ⟨Mu, hMu⟩ : ∃ Mu, M.upped q = Mu := ⟨_, rfl⟩
                obtain ⟨Z, hZ⟩ : ∃ Z, l2.zip q = Z := ⟨_, rfl⟩
                have HZL : Hid (Z.length = min k m) := Lib.hid (by rw [← hZ, List.length_zip, HN2.out, HM.out])
                have HZT : Hid (∀ i x y, l2[i]? = some x → q[i]? = some y → Z.take (i + 1) = Z.take i ++ [(x, y)]) := Lib.hid (fun i x y hx hy => by rw [← hZ]; exact zip_take hx hy)
                rw [hMu] at HR5 HW HMl
                rw [hZ] at HW
                clear CU hA5 hC5 hF5 hMu hZ HR4 HR HV HL HLN HO hb14 HS3 HK200
                go_wp2_with fail
                go_loopw [13] (fun i wr => ∃ t : Nat, t ≤ 6 ∧ i = .int .i64 t ∧ SafRel D w.heap.size (.pointer (some ⟨g, 0, none⟩)) w1.heap.size w wr Mu F5 ws) (fun i _ => 6 - (intOf i).toNat)
                case atStart => exact ⟨0, by omega, rfl, HR5.out⟩
                case round =>
                  obtain ⟨t, ht, rfl, hT⟩ := hrel
                  have HT := Lib.hid hT
                  clear hT HR5
                  by_cases hlt6 : t < 6
                  · obtain ⟨v, hv⟩ : ∃ v, Z.foldl (want6 t) (ws.getD t 0#8) = v := ⟨_, rfl⟩
                    have HVW := Lib.hid hv
                    have CR := D.read' (t : Int) HT.out.at_ HMl.out (by omega) (blk v) 0 (by rw [HT.out.rRes hlt6, HW.out t hlt6, hv])
                    have ht0 : (0 : Int) ≤ (t : Int) := by omega
                    have ht1 : (t : Int) < 6 := by omega
                    clear hv
                    go_wp2_with fail
                    refine CR.mono ?_
                    rintro e w3 ⟨rfl, hb3⟩
                    have HT4 := Lib.hid (HT.out.still (hb3.trans ((Same.alloc w3 (.cells (bs (blk v)) 37)).mono hb3.size)))
                    have RX := Lib.hid (Row.fresh w3 37 (bs (blk v)))
                    have cc := HT4.out.row.get (bs_get (j := t) (by rw [HT4.out.wl]; exact hlt6))
                    obtain ⟨gx, hgx⟩ : ∃ k, w3.heap.size = k := ⟨_, rfl⟩
                    have HGX := Lib.hid hgx
                    clear CR HT hb3 hgx
                    go_wp2_with (first | (refine wpList_store_row rfl 37 _ _ rfl w3.heap.size (bs (blk v)) rfl rfl 37 _ (Row.fresh _ _ _) (by rw [size_bs, length_blk]; exact size_blk) (by rw [size_bs, length_blk]; rfl) (one_bs _) ?_; rw [World.setRow_alloc_new]))
                    rw [HGX.out] at RX ⊢
                    clear HGX
                    generalize w3.alloc (.cells (bs (blk v)) 37) = w4 at *
                    clear cc
                    go_loopw [16, 17] (fun wv i wr => ∃ t2 : Nat, t2 ≤ k ∧ t2 ≤ m ∧ i = .int .i64 t2 ∧ wv = .int .u8 (bd ((Z.take t2).foldl (want6 t) (ws.getD t 0#8))) ∧ wr = w4) (fun _ i _ => k - (intOf i).toNat)
                    case atStart => exact ⟨0, by omega, by omega, rfl, rfl, rfl⟩
                    case round =>
                      obtain ⟨t2, ht2, ht3, rfl, rfl, rfl⟩ := hrel
                      by_cases ha : t2 < k
                      · by_cases hb : t2 < m
                        · obtain ⟨x, hx⟩ : ∃ x, l2[t2]? = some x := ⟨_, List.getElem?_eq_getElem (by rw [HN2.out]; exact ha)⟩
                          obtain ⟨y, hy⟩ : ∃ y, q[t2]? = some y := ⟨_, List.getElem?_eq_getElem (by rw [HM.out]; exact hb)⟩
                          have HZ1 := Lib.hid (HZT.out t2 x y hx hy)
                          obtain ⟨b, o, rfl, _, hs⟩ := steps_at (stays_steps w.heap.size w _ _ _ H2.out HT4.out.below (Nat.le_refl _)) hx
                          obtain ⟨b3, o3, rfl, cy⟩ := slice_at (Slice.below H3.out HT4.out.below (Nat.le_refl _)) hy
                          have ci := hs.i
                          have cv := hs.v
                          have CM := mod_at x.i 6 6 wr rfl (by decide) (by decide)
                          obtain ⟨j, hj⟩ : ∃ j, modK x.i 6 = j := ⟨_, rfl⟩
                          have HJ := Lib.hid hj
                          rw [hj] at CM
                          have hk0 : (0 : Int) ≤ (t2 : Int) := by omega
                          have hk1 : (t2 : Int) < (k : Int) := by omega
                          have hk2 : (t2 : Int) < (m : Int) := by omega
                          obtain ⟨a, hav⟩ : ∃ a, (Z.take t2).foldl (want6 t) (ws.getD t 0#8) = a := ⟨_, rfl⟩
                          have HAV := Lib.hid hav
                          rw [hav]
                          have hod := odd_bd y
                          clear hs hx hy hj hav
                          cases hy0 : y.getLsbD 0 with
                          | false =>
                            rw [hy0] at hod
                            have cond : ((bd y).tmod 2 == 1) = false := by rw [hod]; rfl
                            have HY := Lib.hid hy0
                            clear hy0 hod
                            go_wp2_with fail
                            exact ⟨⟨t2 + 1, by omega, by omega, by go_num, by rw [HZ1.out, List.foldl_append, HAV.out]; show _ = Value.int .u8 (bd (want6 t a (x, y))); rw [want6_even HY.out], trivial⟩, by simp [intOf]; omega⟩
                          | true =>
                            rw [hy0] at hod
                            have cond : ((bd y).tmod 2 == 1) = true := by rw [hod]; rfl
                            have HY := Lib.hid hy0
                            clear hy0 hod
                            by_cases hjt : j = t
                            · have cj : ((j : Int) == (t : Int)) = true := beq_iff_eq.2 (by omega)
                              have HJT := Lib.hid hjt
                              clear hjt
                              go_wp2_with fail
                              refine CM.mono ?_
                              rintro e w3 ⟨rfl, rfl⟩
                              clear CM
                              go_wp2_with fail
                              exact ⟨⟨t2 + 1, by omega, by omega, by go_num, by rw [HZ1.out, List.foldl_append, HAV.out]; show _ = Value.int .u8 (bd (want6 t a (x, y))); rw [want6_odd HY.out (HJ.out.trans HJT.out)], trivial⟩, by simp [intOf]; omega⟩
                            · have cj : ((j : Int) == (t : Int)) = false := beq_eq_false_iff_ne.2 (by omega)
                              have HJT := Lib.hid hjt
                              clear hjt
                              go_wp2_with fail
                              refine CM.mono ?_
                              rintro e w3 ⟨rfl, rfl⟩
                              clear CM
                              go_wp2_with fail
                              exact ⟨⟨t2 + 1, by omega, by omega, by go_num, by rw [HZ1.out, List.foldl_append, HAV.out]; show _ = Value.int .u8 (bd (want6 t a (x, y))); rw [want6_other HJ.out HJT.out], trivial⟩, by simp [intOf]; omega⟩
                        · have hk0 : (0 : Int) ≤ (t2 : Int) := by omega
                          have hk1 : (t2 : Int) < (k : Int) := by omega
                          have hd : decide ((t2 : Int) < (m : Int)) = false := decide_eq_false (by omega)
                          have HE : Hid ((Z.take t2).foldl (want6 t) (ws.getD t 0#8) = v) := Lib.hid (by rw [List.take_of_length_le (by rw [HZL.out]; omega)]; exact HVW.out)
                          rw [HE.out]
                          clear HE
                          go_wp2_with fail
                          have hF0 : Wl [fun W => SafRel D w.heap.size (.pointer (some ⟨g, 0, none⟩)) w1.heap.size w W Mu F5 ws ∧ Row W gx 37 (bs (blk v))] 0 wr.drew := ⟨HT4.out.still (Below.refl _ _).drew, RX.out.drew⟩
                          refine wp_region_phs [is (.int .i64 0), is (.bool false), is (.bool false), is (.agg (bs (blk v))), is (.int .u8 (bd v)), is (.agg (bs (blk v))), is (.bool false), is (.bool false)] [true, true, true, true, true, true, true, true] [(fun W => SafRel D w.heap.size (.pointer (some ⟨g, 0, none⟩)) w1.heap.size w W Mu F5 ws ∧ Row W gx 37 (bs (blk v)))] [false, false, false, false, false, false, false, false] [some 0, some 0, some 0, some 0, some 0, some 0, some 0, some 0] [some 161, some 162, some 163, some 164, some 165, some 166, some 167, some 168] 8 0 (fun _ => true) rfl rfl (by kernel_rfl) (by kernel_rfl) (by kernel_rfl) (by kernel_rfl) ?_ ?_ ?_ ?_ ?_ ?_
                          · repeat first | exact wok_nil | refine wok_cons (by first | exact fun _ _ h k => ⟨h.1.still k, h.2.call k⟩) ?_
                          · repeat first | exact vok_nil | refine vok_rig (by first | exact fun _ _ _ h => h) ?_ | refine vok_soft (by first | exact fun _ _ _ h _ => h) ?_
                          · exact hF0
                          · repeat first | exact all_end (by decide) | refine all_cons (by first | exact rfl | exact ⟨rfl, fun _ _ h => h⟩) ?_
                          · refine allp_mild 0 rfl rfl rfl (fun a x_ W hout hin hP => ?_) ?_
                            · have e15 : a.tmps[15]? = some (.int .i64 0) := (hout 15 (by kernel_rfl)).trans rfl
                              exact does_move rfl e15 ⟨Same.refl _, rfl⟩
                            refine allp_mild 0 rfl rfl rfl (fun a x_ W hout hin hP => ?_) ?_
                            · have e161 := hin.is 0 161 (by kernel_rfl) (by decide) (by kernel_rfl) (by kernel_rfl) _ rfl
                              clear hin hout
                              intro K Q hK
                              go_simp
                              exact hK _ _ ⟨Same.refl _, rfl⟩
                            refine allp_mild 0 rfl rfl rfl (fun a x_ W hout hin hP => ?_) ?_
                            · have e162 := hin.is 1 162 (by kernel_rfl) (by decide) (by kernel_rfl) (by kernel_rfl) _ rfl
                              exact does_move rfl e162 ⟨Same.refl _, rfl⟩
                            refine allp_mild 0 rfl rfl rfl (fun a x_ W hout hin hP => ?_) ?_
                            · have e14 : a.tmps[14]? = some (.pointer (some ⟨gx, 0, none⟩)) := (hout 14 (by kernel_rfl)).trans rfl
                              clear hin hout
                              intro K0 Q hK
                              refine wp_load_mid 37 (.tmp 14) rfl gx 0 (eval_of_get e14) (bs (blk v)).toList _ (row_range hP.2 (Below.refl W.heap.size W) hP.2.lt) Try.underlying37 rfl (by rw [len_bs, length_blk]; exact size_blk) ?_
                              exact hK _ _ ⟨Same.refl _, by simp [Vs, is]⟩
                            refine allp_mild 0 rfl rfl rfl (fun a x_ W hout hin hP => ?_) ?_
                            · have e16 : a.tmps[16]? = some (.int .u8 (bd v)) := (hout 16 (by kernel_rfl)).trans rfl
                              exact does_move rfl e16 ⟨Same.refl _, rfl⟩
                            refine allp_mild 0 rfl rfl rfl (fun a x_ W hout hin hP => ?_) ?_
                            · have e165 := hin.is 4 165 (by kernel_rfl) (by decide) (by kernel_rfl) (by kernel_rfl) _ rfl
                              clear hP
                              clear hin hout
                              intro K0 Q hK
                              go_simp
                              refine (fill_any v W).mono ?_
                              rintro e W' ⟨rfl, hb⟩
                              exact hK _ _ ⟨hb, rfl⟩
                            refine allp_mild 0 rfl rfl rfl (fun a x_ W hout hin hP => ?_) ?_
                            · have e164 := hin.is 3 164 (by kernel_rfl) (by decide) (by kernel_rfl) (by kernel_rfl) _ rfl
                              have e166 := hin.is 5 166 (by kernel_rfl) (by decide) (by kernel_rfl) (by kernel_rfl) _ rfl
                              have q := eql_blk (blk v) (blk v) (length_blk _) (length_blk _) W
                              rw [decide_eq_true rfl] at q
                              clear hP
                              clear hin hout
                              intro K0 Q hK
                              go_simp
                              exact hK _ _ ⟨Same.refl _, rfl⟩
                            refine allp_mild 0 rfl rfl rfl (fun a x_ W hout hin hP => ?_) ?_
                            · have e163 := hin.is 2 163 (by kernel_rfl) (by decide) (by kernel_rfl) (by kernel_rfl) _ rfl
                              have e167 := hin.is 6 167 (by kernel_rfl) (by decide) (by kernel_rfl) (by kernel_rfl) _ rfl
                              exact does_pick rfl e163 ⟨Same.refl _, eval_of_get e167⟩
                            exact all_end (by decide)
                          · intro x_ W hP hV
                            have h7 : x_ 7 = .bool false := hV 7 (by decide) (.inl (by kernel_rfl))
                            have HP := Lib.hid hP.1
                            clear hV hP
                            simp only [putL, Act.put, List.setIfInBounds_toArray, List.set_cons_succ, List.set_cons_zero, h7]
                            refine wpAnyH_done (by kernel_rfl) ?_ _
                            go_wp2_with fail
                            go_roundw
                            case rel => exact ⟨t + 1, by omega, by go_num, HP.out⟩
                            case measure => simp [intOf]; omega
                      · have hd : decide ((t2 : Int) < (k : Int)) = false := decide_eq_false (by omega)
                        have HE : Hid ((Z.take t2).foldl (want6 t) (ws.getD t 0#8) = v) := Lib.hid (by rw [List.take_of_length_le (by rw [HZL.out]; omega)]; exact HVW.out)
                        rw [HE.out]
                        clear HE
                        go_wp2_with fail
                        have hF0 : Wl [fun W => SafRel D w.heap.size (.pointer (some ⟨g, 0, none⟩)) w1.heap.size w W Mu F5 ws ∧ Row W gx 37 (bs (blk v))] 0 wr.drew := ⟨HT4.out.still (Below.refl _ _).drew, RX.out.drew⟩
                        refine wp_region_phs [is (.int .i64 0), is (.bool false), is (.bool false), is (.agg (bs (blk v))), is (.int .u8 (bd v)), is (.agg (bs (blk v))), is (.bool false), is (.bool false)] [true, true, true, true, true, true, true, true] [(fun W => SafRel D w.heap.size (.pointer (some ⟨g, 0, none⟩)) w1.heap.size w W Mu F5 ws ∧ Row W gx 37 (bs (blk v)))] [false, false, false, false, false, false, false, false] [some 0, some 0, some 0, some 0, some 0, some 0, some 0, some 0] [some 161, some 162, some 163, some 164, some 165, some 166, some 167, some 168] 8 0 (fun _ => true) rfl rfl (by kernel_rfl) (by kernel_rfl) (by kernel_rfl) (by kernel_rfl) ?_ ?_ ?_ ?_ ?_ ?_
                        · repeat first | exact wok_nil | refine wok_cons (by first | exact fun _ _ h k => ⟨h.1.still k, h.2.call k⟩) ?_
                        · repeat first | exact vok_nil | refine vok_rig (by first | exact fun _ _ _ h => h) ?_ | refine vok_soft (by first | exact fun _ _ _ h _ => h) ?_
                        · exact hF0
                        · repeat first | exact all_end (by decide) | refine all_cons (by first | exact rfl | exact ⟨rfl, fun _ _ h => h⟩) ?_
                        · refine allp_mild 0 rfl rfl rfl (fun a x_ W hout hin hP => ?_) ?_
                          · have e15 : a.tmps[15]? = some (.int .i64 0) := (hout 15 (by kernel_rfl)).trans rfl
                            exact does_move rfl e15 ⟨Same.refl _, rfl⟩
                          refine allp_mild 0 rfl rfl rfl (fun a x_ W hout hin hP => ?_) ?_
                          · have e161 := hin.is 0 161 (by kernel_rfl) (by decide) (by kernel_rfl) (by kernel_rfl) _ rfl
                            clear hin hout
                            intro K Q hK
                            go_simp
                            exact hK _ _ ⟨Same.refl _, rfl⟩
                          refine allp_mild 0 rfl rfl rfl (fun a x_ W hout hin hP => ?_) ?_
                          · have e162 := hin.is 1 162 (by kernel_rfl) (by decide) (by kernel_rfl) (by kernel_rfl) _ rfl
                            exact does_move rfl e162 ⟨Same.refl _, rfl⟩
                          refine allp_mild 0 rfl rfl rfl (fun a x_ W hout hin hP => ?_) ?_
                          · have e14 : a.tmps[14]? = some (.pointer (some ⟨gx, 0, none⟩)) := (hout 14 (by kernel_rfl)).trans rfl
                            clear hin hout
                            intro K0 Q hK
                            refine wp_load_mid 37 (.tmp 14) rfl gx 0 (eval_of_get e14) (bs (blk v)).toList _ (row_range hP.2 (Below.refl W.heap.size W) hP.2.lt) Try.underlying37 rfl (by rw [len_bs, length_blk]; exact size_blk) ?_
                            exact hK _ _ ⟨Same.refl _, by simp [Vs, is]⟩
                          refine allp_mild 0 rfl rfl rfl (fun a x_ W hout hin hP => ?_) ?_
                          · have e16 : a.tmps[16]? = some (.int .u8 (bd v)) := (hout 16 (by kernel_rfl)).trans rfl
                            exact does_move rfl e16 ⟨Same.refl _, rfl⟩
                          refine allp_mild 0 rfl rfl rfl (fun a x_ W hout hin hP => ?_) ?_
                          · have e165 := hin.is 4 165 (by kernel_rfl) (by decide) (by kernel_rfl) (by kernel_rfl) _ rfl
                            clear hP
                            clear hin hout
                            intro K0 Q hK
                            go_simp
                            refine (fill_any v W).mono ?_
                            rintro e W' ⟨rfl, hb⟩
                            exact hK _ _ ⟨hb, rfl⟩
                          refine allp_mild 0 rfl rfl rfl (fun a x_ W hout hin hP => ?_) ?_
                          · have e164 := hin.is 3 164 (by kernel_rfl) (by decide) (by kernel_rfl) (by kernel_rfl) _ rfl
                            have e166 := hin.is 5 166 (by kernel_rfl) (by decide) (by kernel_rfl) (by kernel_rfl) _ rfl
                            have q := eql_blk (blk v) (blk v) (length_blk _) (length_blk _) W
                            rw [decide_eq_true rfl] at q
                            clear hP
                            clear hin hout
                            intro K0 Q hK
                            go_simp
                            exact hK _ _ ⟨Same.refl _, rfl⟩
                          refine allp_mild 0 rfl rfl rfl (fun a x_ W hout hin hP => ?_) ?_
                          · have e163 := hin.is 2 163 (by kernel_rfl) (by decide) (by kernel_rfl) (by kernel_rfl) _ rfl
                            have e167 := hin.is 6 167 (by kernel_rfl) (by decide) (by kernel_rfl) (by kernel_rfl) _ rfl
                            exact does_pick rfl e163 ⟨Same.refl _, eval_of_get e167⟩
                          exact all_end (by decide)
                        · intro x_ W hP hV
                          have h7 : x_ 7 = .bool false := hV 7 (by decide) (.inl (by kernel_rfl))
                          have HP := Lib.hid hP.1
                          clear hV hP
                          simp only [putL, Act.put, List.setIfInBounds_toArray, List.set_cons_succ, List.set_cons_zero, h7]
                          refine wpAnyH_done (by kernel_rfl) ?_ _
                          go_wp2_with fail
                          go_roundw
                          case rel => exact ⟨t + 1, by omega, by go_num, HP.out⟩
                          case measure => simp [intOf]; omega
                  · obtain rfl : t = 6 := by omega
                    go_wp2_with fail
                    refine (dwakes_any D _).mono ?_
                    rintro e w3 ⟨rfl, hb3⟩
                    go_wp2_with fail
                    go_ret
                    exact ⟨rfl, HT.out.below.trans (hb3.mono HT.out.bse)⟩
end Go.Proofs.Yteehpdeeaebliaa
