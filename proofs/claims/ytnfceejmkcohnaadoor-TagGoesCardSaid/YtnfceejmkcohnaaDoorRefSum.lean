/- The document's hash of any parts: the plain function's. -/
import Derived.Test.YtnfceejmkcohnaaDoorCopy
import Derived.Test.YtnfceejmkcohnaaDoorPartsG
import Derived.Test.YtnfceejmkcohnaaDoorRefH
namespace Go.Proofs.YtnfceejmkcohnaaDoor
open Go Go.RowKit
def RS (w wr : World) (v : Value) (M : List (BitVec 8)) : Prop :=
  wr.ownsRow (w.heap.size + 1) 5 1 v M.length (bytesV M) ∧ Row wr w.heap.size 24 (bs (zer 32)) ∧ Below w.heap.size w wr
theorem RS.step {w wr w4 : World} {v v1 : Value} {M q L : List (BitVec 8)} (h : RS w wr v M) (hL : L = M ++ q) (own : w4.ownsRow (w.heap.size + 1) 5 1 v1 (M.length + q.length) (bytesV M ++ bytesV q)) (hb : Below (w.heap.size + 1) wr w4) : RS w w4 v1 L := by
  subst hL
  obtain ⟨_, h2, h3⟩ := h
  exact ⟨by simpa [bytesV] using own, h2.below hb (by omega), h3.trans (hb.mono (by omega))⟩
theorem RS.start (w : World) : RS w (w.alloc (.cells (bs (zer 32)) 24)) (.slice none 0 0) [] :=
  ⟨World.ownsRow_nil _ _ _ _, Row.fresh _ _ _, (Below.refl _ _).alloc (Nat.le_refl _) _⟩
set_option maxHeartbeats 1600000 in
theorem refsum_core (ps : List (List (BitVec 8))) (M : List (BitVec 8)) (hF : ps.flatten = M) (v : Value) (w : World) (hv : Hand w v ps) (hn : ps.length ≤ 1000) (hM : M.length ≤ 100000) :
    Calls Tryd.prog 19 #[v] w fun e w' => e = .returned (.agg (bs (sha M))) ∧ Below w.heap.size w w' := by
  obtain ⟨A, c, rfl, hp⟩ := hv
  have HP := Lib.hid hp
  have HF := Lib.hid hF
  have HS0 := Lib.hid (RS.start w)
  clear hp hF
  go_enter Tryd.func19, Tryd.ntmps19
  go_wp2_with fail
  go_loopw [3, 4] (fun v i wr => ∃ k : Nat, k ≤ ps.length ∧ i = .int .i64 k ∧ RS w wr v (ps.take k).flatten) (fun _ i _ => ps.length - (intOf i).toNat)
  case atStart => exact ⟨0, by omega, rfl, HS0.out⟩
  case round =>
    clear HS0
    obtain ⟨k, hk, rfl, hR⟩ := hrel
    have hbr := hR.2.2
    by_cases hlt : k < ps.length
    · obtain ⟨b, o, rfl, hbl, hc⟩ := HP.out (by intro h; subst h; simp at hlt)
      obtain ⟨u, hu, hI⟩ := hc k ps[k] (List.getElem?_eq_getElem hlt)
      obtain ⟨Ai, ci, rfl, hS, hA, _⟩ := hI.below hbr (Nat.le_refl _)
      have hu2 := (hbr.cell (p := ⟨b, o + k, none⟩) hbl).trans hu
      have hfl := flat_le ps k hlt
      rw [HF.out, List.length_append] at hfl
      have HFS := Lib.hid (flat_succ ps k hlt)
      have hsz : w.heap.size + 1 ≤ wr.heap.size := hR.2.1.lt
      clear hc hu hI
      generalize (ps.take k).flatten = N at *
      have own := hR.1
      go_wp2_with (first | (at_builtin; refine wpList_append_slice rfl (.tmp 16) (.tmp 20) rfl (w.heap.size + 1) _ N.length (bytesV N) rfl own Ai ps[k].length ci ps[k] rfl hS hA (by omega) hsz ?_; intro v1 w4 own1 hb4))
      refine ⟨⟨k + 1, by omega, by go_num, hR.step HFS.out own1 hb4⟩, by simp [intOf]; omega⟩
    · obtain rfl : k = ps.length := by omega
      rw [List.take_length, HF.out] at hR
      obtain ⟨own, hr, _⟩ := hR
      clear HP HF hlt
      obtain ⟨A1, c1, rfl⟩ := own_form own
      go_wp2_with fail
      refine (refpad_any M.length (by omega) wr).mono ?_
      rintro e w5 ⟨gp, cp, rfl, sp, hb5⟩
      have hpz := padSize_hi M.length
      have hpw := padSize_whole M.length
      have own5 := owns_call own hb5
      have r5 := hr.call hb5
      have hb05 : Below w.heap.size w w5 := hbr.trans (hb5.mono hbr.size)
      clear own hr hb5 hbr
      obtain ⟨L, hL⟩ : ∃ L, M ++ pad M.length = L := ⟨_, rfl⟩
      have HL := Lib.hid hL
      have HDL : Hid (sha M = dig (hashTo L)) := Lib.hid (by rw [← hL]; rfl)
      clear hL
      have hLn : L.length = M.length + padSize M.length := by rw [← HL.out, List.length_append, length_pad]
      have hL64 : L.length % 64 = 0 := by rw [hLn]; exact hpw
      have hLhi : L.length ≤ 100072 := by omega
      have HL64 := Lib.hid hL64
      have hsz5 : w.heap.size + 1 ≤ w5.heap.size := r5.lt
      clear hLn hL64 hpw
      go_wp2_with (first | (at_builtin; refine wpList_append_slice rfl (.tmp 22) (.tmp 26) rfl (w.heap.size + 1) _ M.length (bytesV M) rfl own5 (some ⟨gp, 0, none⟩) (padSize M.length) cp (pad M.length) rfl sp (fun h => by cases h) (by omega) hsz5 ?_; intro v2 w6 own6 hb6; obtain ⟨g, cap, rfl, hg, hgl, hcap2, hcell⟩ := all_form own6 HL.out; clear own6))
      have hb06 : Below w.heap.size w w6 := hb05.trans (hb6.mono (by omega))
      have r66 := r5.below hb6 (by omega)
      have HC := Lib.hid hcell
      clear own5 hb05 hb6 r5 sp hcell hpz
      refine (ref_h0 w6).mono ?_
      rintro e w7 ⟨rfl, hb7⟩
      have r67 := r66.call hb7
      have hb07 : Below w.heap.size w w7 := hb06.trans (hb7.mono hb06.size)
      have HC7 : Hid (∀ j x, L[j]? = some x → w7.cell? ⟨g, j, none⟩ = some (.int .u8 (bd x))) := Lib.hid fun j x hx => (hb7.cell (p := ⟨g, j, none⟩) hgl).trans (HC.out j x hx)
      have hgl7 : g < w7.heap.size := Nat.lt_of_lt_of_le hgl hb7.size
      clear r66 hb06 HC hgl hb7
      go_wp2_with (first | (refine wpList_store_row rfl 46 _ _ rfl w7.heap.size (ws h0) rfl rfl 46 _ (Row.fresh _ _ _) size_h (by kernel_rfl) (one_ws _) ?_; rw [World.setRow_alloc_new]))
      go_loopw [6] (fun i wr => ∃ k : Nat, 64 * k ≤ L.length ∧ i = .int .i64 (64 * (k : Int)) ∧ PR w wr w7.heap.size g w.heap.size L (zer 32) k) (fun i _ => L.length - (intOf i).toNat)
      case atStart => exact ⟨0, by omega, rfl, Row.fresh _ _ _, r67.alloc _, hb07.alloc hb07.size _, fun j x hx => (World.cell?_alloc_lt w7 _ ⟨g, j, none⟩ hgl7).trans (HC7.out j x hx), Nat.lt_of_lt_of_le hgl7 (by simp)⟩
      case round =>
        have h07 := r67.lt
        clear r67 hb07 HC7
        obtain ⟨t, ht, rfl, hR⟩ := hrel
        have HR := Lib.hid hR
        clear hR
        by_cases hlt : 64 * t < L.length
        · have h64 : 64 * t + 64 ≤ L.length := by have := HL64.out; omega
          have z1 := i64_id (64 * (t : Int) + 64) (by omega) (by omega)
          have i0 : (0 : Int) ≤ 64 * (t : Int) := by omega
          have i1 : 64 * (t : Int) + 64 ≤ (cap : Int) := by omega
          have i2 : 64 * (t : Int) ≤ (cap : Int) := by omega
          have i3 : 64 * (t : Int) ≤ 64 * (t : Int) + 64 := by omega
          have i4 : (0 : Int) ≤ 64 * (t : Int) + 64 := by omega
          have i5 : 64 * (t : Int) + 64 ≤ (L.length : Int) := by omega
          have t0 : (64 * (t : Int)).toNat = 64 * t := by omega
          have t1 : (64 * (t : Int) + 64).toNat = 64 * t + 64 := by omega
          have n0 : ¬ cap = 64 * t := by omega
          go_wp2_with fail
          change Code.wp _ _ _ _ (wr.alloc (.cells (bs (zer 64)) 48))
          have rx := Row.fresh wr 48 (bs (zer 64))
          have HX := Lib.hid (PR.call HR.out ((Below.refl wr.heap.size wr).alloc (Nat.le_refl _) (.cells (bs (zer 64)) 48)))
          have hgx : g < wr.heap.size := HR.out.2.2.2.2
          have hg6x : w.heap.size < wr.heap.size := HR.out.2.1.lt
          have hhx : w7.heap.size < wr.heap.size := HR.out.1.lt
          have hwr : w.heap.size ≤ wr.heap.size := HR.out.2.2.1.size
          clear HR
          generalize wr.alloc (.cells (bs (zer 64)) 48) = wx at *
          have HBL : Hid ((bytesV ((L.drop (64 * t)).take 64)).length = 64) := Lib.hid (by simp [bytesV]; omega)
          go_still_tail 6, (by kernel_rfl)
          change wpList _ _ _ _ _ wx.drew
          refine wpList_copy_own rfl _ _ 22 22 rfl 5 Tryd.underlying22 size_u8 wr.heap.size 0 64 64 ⟨g, 64 * t, none⟩ 64 (cap - 64 * t) rfl rfl (bs (zer 64)) 48 rx.drew (bytesV ((L.drop (64 * t)).take 64)) (by rw [HBL.out]; rfl) (src (src_at HX.out.2.2.2.1)) (by rw [size_bs, HBL.out]; simp [zer]) (one_bytesV _) ?_
          rw [copy_block L t h64]
          have HB : Hid (((L.drop (64 * t)).take 64).length = 64) := Lib.hid (by simp; omega)
          have ry := rx.drew.setRow (bs ((L.drop (64 * t)).take 64))
          have HY := Lib.hid (PR.setRow HX.out (gy := wr.heap.size) (by omega) (by omega) (by omega) hwr (bs ((L.drop (64 * t)).take 64)))
          clear rx HX z1 i0 i1 i2 i3 i4 i5 t0 t1 n0 HBL
          generalize wx.drew.setRow wr.heap.size (bs ((L.drop (64 * t)).take 64)) = wy at *
          have hz2 : 64 * (t : Int) + 64 ≤ 200000 := by omega
          go_wp2_with (first | (refine wpList_load_row rfl 46 _ rfl w7.heap.size rfl 46 (ws (turns L t)) (0, 0) _ HY.out.1 Tryd.underlying46 rfl (by rw [size_ws, length_turns]; exact size_h) ?_) | (refine wpList_load_row rfl 48 _ rfl wr.heap.size rfl 48 (bs ((L.drop (64 * t)).take 64)) (0, 0) _ ry Tryd.underlying48 rfl (by rw [size_bs, HB.out]; exact size_b) ?_))
          refine (ref_turn (turns L t) ((L.drop (64 * t)).take 64) (length_turns L t) HB.out wy).mono ?_
          rintro e w8 ⟨rfl, hb8⟩
          have HZ := Lib.hid (PR.call HY.out hb8)
          have HTN : Hid (turn (turns L t) ((L.drop (64 * t)).take 64) = turns L (t + 1)) := Lib.hid rfl
          rw [HTN.out]
          go_wp2_with (first | (refine wpList_store_row rfl 46 _ _ rfl w7.heap.size (ws (turns L (t + 1))) rfl rfl 46 _ HZ.out.1 (by rw [size_ws, length_turns]; exact size_h) (by rw [size_ws, size_ws, length_turns, length_turns]) (one_ws _) ?_))
          go_roundw
          case rel =>
            exact ⟨t + 1, by omega, by go_num, PR.turned HZ.out (by omega) (by omega) (by omega)⟩
          case measure => simp [intOf]; omega
        · obtain ⟨hr, hr6, hbr, _, _⟩ := HR.out
          have htl : 64 * t = L.length := by omega
          have HTL : Hid (turns L t = hashTo L) := Lib.hid (by rw [hashTo, ← htl, Nat.mul_div_cancel_left t (by omega)])
          have HH : Hid ((hashTo L).length = 8) := Lib.hid (length_hashTo L)
          have hle : ¬ 64 * (t : Int) + 64 ≤ (L.length : Int) := by omega
          rw [HTL.out] at hr
          clear HR htl HTL
          generalize hashTo L = H at *
          go_wp2_with fail
          have rd := Row.fresh wr 24 (bs (zer 32))
          go_loopw [9] (fun x wz => ∃ i : Nat, i ≤ 32 ∧ x = .int .i64 (i : Int) ∧ Row wz wr.heap.size 24 (bs (dpart H i)) ∧ Row wz w7.heap.size 46 (ws H) ∧ Row wz w.heap.size 24 (bs (zer 32)) ∧ Below w.heap.size w wz) (fun x _ => 32 - (intOf x).toNat)
          case atStart => exact ⟨0, by omega, rfl, by rw [dpart_zero]; exact rd, hr.alloc _, hr6.alloc _, hbr.alloc hbr.size _⟩
          case round =>
            have hwr := hbr.size
            have hhx := hr.lt
            have hg6x := hr6.lt
            clear rd hr hr6 hbr
            obtain ⟨i, hi, rfl, rd, hr, hr6, hbz⟩ := hrel
            by_cases hlti : i < 32
            · have ha8 : i / 4 < 8 := by omega
              have ch := hr.get (get_ws H (i / 4) (by rw [HH.out]; exact ha8))
              have cd := rd.get (get_bs (dpart H i) i (by rw [length_dpart H _ HH.out hi]; omega))
              have fd := rd.free i
              go_wp2_with fail
              exact ⟨⟨i + 1, by omega, by go_num, d_step HH.out hlti rd hr hr6 hbz (by omega) (by omega) (by omega)⟩, by simp [intOf]; omega⟩
            · obtain rfl : i = 32 := by omega
              rw [dpart_all H HH.out, ← HDL.out] at rd
              have HD : Hid ((sha M).length = 32) := Lib.hid (by rw [HDL.out, length_dig, HH.out])
              have HS : Hid ((Tryd.prog.info? 24).map (·.size) = some (bs (sha M)).size) := Lib.hid (by rw [size_bs, HD.out]; exact size_d)
              clear hlti hi hr
              go_wp2_with (first | (refine wpList_load_row rfl 24 (.tmp 8) rfl _ rfl 24 (bs (sha M)) (0, 0) _ rd Tryd.underlying24 rfl HS.out ?_) | (refine wpList_store_row rfl 24 _ _ rfl w.heap.size (bs (sha M)) rfl rfl 24 _ hr6 HS.out (by rw [size_bs, size_bs, HD.out]; rfl) (one_bs _) ?_))
              exact bodyPost_ret (v := .agg (bs (sha M))) (results_cell_row Tryd.results19 _ _ w.heap.size 24 (bs (sha M)) (0, 0) _ rfl (hr6.setRow _) Tryd.underlying24 rfl HS.out) rfl ⟨rfl, below_setRow hbz (Nat.le_refl _) _⟩
theorem refsum_any (ps : List (List (BitVec 8))) (v : Value) (w : World) (hv : Hand w v ps) (hn : ps.length ≤ 1000) (hM : ps.flatten.length ≤ 100000) :
    Calls Tryd.prog 19 #[v] w fun e w' => e = .returned (.agg (bs (sha ps.flatten))) ∧ Below w.heap.size w w' := refsum_core ps _ rfl v w hv hn hM
end Go.Proofs.YtnfceejmkcohnaaDoor
