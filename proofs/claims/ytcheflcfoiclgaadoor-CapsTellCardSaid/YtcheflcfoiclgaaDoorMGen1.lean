/- Merged: RefPad RefH RefSum PartL Behind CopyB Block Turned Mac MacEval MacWakes Makes TagSpec Same Lit KeepB NamesRef RefBlock RefMac MarkB Read ReadW OpenN. -/
import Derived.OwnWalk
import Derived.StillTailTactics
import Derived.KernelRfl
import Derived.Deep.DeepCutAuto
import Derived.Lib.SlBytesConst
import Derived.Laws.IdiomStrings
import Derived.ChangeShapes
import Derived.Test.YtcheflcfoiclgaaDoorMGen0
/- The document's pad: the plain function's. -/
set_option maxRecDepth 4000
namespace Go.Proofs.YtcheflcfoiclgaaDoor
open Go Go.RowKit
theorem own_one (w : World) (x : BitVec 8) : (w.alloc (.cells #[.int .u8 (bd x)] 5)).ownsRow w.heap.size 5 1 (.slice (some ⟨w.heap.size, 0, none⟩) 1 1) 1 (bytesV [x]) :=
  ⟨rfl, .inr ⟨w.heap.size, 1, #[.int .u8 (bd x)], rfl, Nat.le_refl _, heap_alloc_new w _, Nat.le_refl _, by unfold maxLen; omega, rfl, rfl⟩⟩
/- a slice of the call's own, of these bytes -/
def Own (w wr : World) (v : Value) (q : List (BitVec 8)) : Prop := ∃ g cap, v = .slice (some ⟨g, 0, none⟩) q.length cap ∧ wr.ownsRow w.heap.size 5 1 v q.length (bytesV q) ∧ Below w.heap.size w wr
theorem Own.slice {w wr : World} {v : Value} {q : List (BitVec 8)} (h : Own w wr v q) (hq : 0 < q.length) : Slice wr v q := by
  obtain ⟨g, cap, rfl, h1, _⟩ := h
  obtain ⟨g', cap', e, _, h3, h4, h5⟩ := owns_form h1 hq
  injection e with e1 _ e3
  injection e1 with e1
  injection e1 with e1
  subst e1 e3
  exact ⟨_, cap, rfl, h4, fun _ => ⟨g, 0, rfl, h3, fun j x hx => by rw [Nat.zero_add]; exact h5 j x hx⟩⟩
theorem own_of {w w0 wr : World} {v : Value} {q : List (BitVec 8)} {n : Nat} {xs : List Value} (h : wr.ownsRow w.heap.size 5 1 v n xs) (hx : xs = bytesV q) (hq : 0 < q.length) (h0 : Below w.heap.size w w0) (hb : Below w.heap.size w0 wr) : Own w wr v q := by
  subst hx
  have hn : q.length = n := by have := h.1; simp [bytesV] at this; omega
  subst hn
  obtain ⟨g, cap, rfl, _⟩ := owns_form h hq
  exact ⟨g, cap, rfl, h, h0.trans hb⟩
theorem one_slice (w : World) (x : BitVec 8) : Slice (w.alloc (.cells #[.int .u8 (bd x)] 5)) (.slice (some ⟨w.heap.size, 0, none⟩) 1 1) [x] := bytes_slice (q := [x]) (c := 1) (heap_alloc_new w _) (by simp)
theorem one_slice_at (w : World) {x : BitVec 8} {i : Int} (hi : bd x = i) : Slice (w.alloc (.cells #[.int .u8 i] 5)) (.slice (some ⟨w.heap.size, 0, none⟩) 1 1) [x] := by
  subst hi; exact one_slice w x
set_option maxHeartbeats 800000 in
theorem refpad_core (n z : Nat) (X : Int) (w : World) (_hn : n < 18446744073709551616) (hz9 : 9 ≤ z) (hz72 : z ≤ 72) (hzm : (n + z) % 64 = 0) (hX : IntKind.u64.wrap ((n : Int) * 8) = X) :
    Calls Tryd.prog 34 #[.int .u64 (n : Int)] w fun e w' => ∃ v, e = .returned v ∧ Own w w' v (padTo z X 8) := by
  go_enter Tryd.func34, Tryd.ntmps34
  go_wp2_with fail
  go_loopw [3] (fun v wr => ∃ j : Nat, j + 9 ≤ z ∧ Own w wr v (0x80#8 :: zer j)) (fun v _ => 100 - sliceLen v)
  case atStart => exact ⟨0, hz9, _, 1, rfl, own_one w 0x80#8, (Below.refl _ _).alloc (Nat.le_refl _) _⟩
  case round =>
    obtain ⟨j, hj, g, cap, rfl, hown, hb⟩ := hrel
    have hl : (0x80#8 :: zer j).length = j + 1 := by simp [zer]
    rw [hl] at hown ⊢
    have hS : ∃ S : Nat, IntKind.u64.wrap ((n : Int) + ((j : Int) + 1)) = (S : Int) ∧ S % 64 = (n + (j + 1)) % 64 := ⟨(n + (j + 1)) % 18446744073709551616, by rw [u64_wrap]; omega, by omega⟩
    obtain ⟨S, hS1, hS2⟩ := hS
    have hS3 : (S : Int).tmod 64 = ((S % 64 : Nat) : Int) := by rw [Int.tmod_eq_emod_of_nonneg (by omega)]; omega
    by_cases hlt : j + 9 < z
    · have e1 : (((IntKind.u64.wrap ((n : Int) + ((j : Int) + 1))).tmod 64) != 56) = true := by rw [hS1, hS3, bne_iff_ne]; omega
      clear hS1 hS2 hS3
      go_wp2_with (first | (at_builtin; refine wpList_append_slice rfl _ _ rfl w.heap.size _ (j + 1) (bytesV (0x80#8 :: zer j)) rfl (hown.alloc _) _ 1 1 [0#8] rfl (one_slice wr 0#8) (fun h => by cases h) (by omega) (Nat.le_trans hb.size (by simp)) ?_; intro v1 w4 own1 hb4))
      have HO : Own w w4 v1 (0x80#8 :: zer (j + 1)) := own_of own1 (by simp [bytesV, zer, List.replicate_succ']) (by simp) (hb.alloc hb.size _) hb4
      refine ⟨⟨j + 1, by omega, HO⟩, ?_⟩
      obtain ⟨_, _, e, _⟩ := HO
      rw [e]
      simp only [sliceLen, List.length_cons, zer, List.length_replicate]
      omega
    · have e1 : (((IntKind.u64.wrap ((n : Int) + ((j : Int) + 1))).tmod 64) != 56) = false := by rw [hS1, hS3, bne_eq_false_iff_eq]; omega
      have hjz : j = z - 9 := by omega
      have HO : Own w wr (.slice (some ⟨g, 0, none⟩) (j + 1) cap) (0x80#8 :: (zer (z - 9) ++ (lows X 8).take 0)) := ⟨g, cap, by simp [zer]; omega, by simpa [zer, ← hjz] using hown, hb⟩
      have HO1 := Lib.hid HO
      clear hS1 hS2 hS3 HO hown hb hl hjz
      go_wp2_with fail
      clear e1 hlt hj
      generalize Value.slice (some ⟨g, 0, none⟩) (j + 1) cap = v0 at *
      go_loopw [3, 4] (fun v i wr => ∃ k : Nat, k ≤ 8 ∧ i = .int .i64 (7 - (k : Int)) ∧ Own w wr v (0x80#8 :: (zer (z - 9) ++ (lows X 8).take k))) (fun _ i _ => (intOf i + 1).toNat)
      case atStart => exact ⟨0, by omega, rfl, HO1.out⟩
      case round =>
        clear HO1
        obtain ⟨k, hk, rfl, g, cap, rfl, hown, hb⟩ := hrel
        have hl : (0x80#8 :: (zer (z - 9) ++ (lows X 8).take k)).length = z - 8 + k := by simp [zer, length_lows]; omega
        by_cases hlt : k < 8
        · have HB : Hid (bd (lenByte X (7 - k)) = X / 2 ^ (8 * (7 - k)) % 256) := Lib.hid (lenByte_val X (7 - k))
          have HT : Hid ((lows X 8).take (k + 1) = (lows X 8).take k ++ [lenByte X (7 - k)]) := Lib.hid (by rw [List.take_succ_eq_append_getElem (by rw [length_lows]; exact hlt)]; congr 2; have := lows_get X 8 k hlt; rw [List.getElem?_eq_getElem (by rw [length_lows]; exact hlt)] at this; injection this)
          rw [hl] at hown ⊢
          go_wp2_with (first | (at_builtin; refine wpList_append_slice rfl _ _ rfl w.heap.size _ (z - 8 + k) (bytesV (0x80#8 :: (zer (z - 9) ++ (lows X 8).take k))) rfl (hown.alloc _) _ 1 1 [lenByte X (7 - k)] rfl (one_slice_at wr HB.out) (fun h => by cases h) (by omega) (Nat.le_trans hb.size (by simp)) ?_; intro v1 w4 own1 hb4))
          refine ⟨⟨k + 1, by omega, by go_num, ?_⟩, by simp [intOf]; omega⟩
          exact own_of own1 (by rw [HT.out]; simp [bytesV]) (by simp) (hb.alloc hb.size _) hb4
        · obtain rfl : k = 8 := by omega
          have HO : Hid (Own w wr (.slice (some ⟨g, 0, none⟩) (z - 8 + 8) cap) (padTo z X 8)) := Lib.hid (by
            have e : padTo z X 8 = 0x80#8 :: (zer (z - 9) ++ (lows X 8).take 8) := by rw [padTo, List.take_of_length_le (by rw [length_lows]; omega)]; rfl
            rw [e]
            exact ⟨g, cap, by rw [hl], by rw [← hl]; exact hown, hb⟩)
          rw [hl]
          clear hown hb hl hlt hk
          go_wp2_with fail
          go_ret
          exact ⟨_, rfl, HO.out⟩
/- the post of the document's pad -/
def PadPost (w : World) (n : Nat) (e : Ending) (w' : World) : Prop := ∃ g cap, e = .returned (.slice (some ⟨g, 0, none⟩) (padSize n) cap) ∧ Slice w' (.slice (some ⟨g, 0, none⟩) (padSize n) cap) (pad n) ∧ Below w.heap.size w w'
theorem refshapad_any (n : Nat) (hn : n < 18446744073709551616) (w : World) : Calls Tryd.prog 34 #[.int .u64 (n : Int)] w (PadPost w n) := by
  refine (refpad_core n (padSize n) (bitLen n) w hn (padSize_lo n) (padSize_hi n) (padSize_whole n) (by rw [u64_wrap]; unfold bitLen; omega)).mono fun e w' ⟨v, he, hO⟩ => ?_
  have hs := hO.slice (by rw [length_padTo _ _ _ (padSize_lo n) (Nat.le_refl _)]; have := padSize_lo n; omega)
  obtain ⟨g, cap, rfl, _, hb⟩ := hO
  rw [length_padTo _ _ _ (padSize_lo n) (Nat.le_refl _)] at he hs
  exact ⟨g, cap, he, hs, hb⟩
end Go.Proofs.YtcheflcfoiclgaaDoor

/- The document's start; one operation of a region that draws its order. -/
set_option maxRecDepth 4000
namespace Go.Proofs.YtcheflcfoiclgaaDoor
open Go Go.RowKit
theorem ref_h0 (w : World) : Calls Tryd.prog 35 #[] w fun e w' => e = .returned (.agg (ws h0)) ∧ Below w.heap.size w w' := ref_start w
end Go.Proofs.YtcheflcfoiclgaaDoor

/- The document's hash of any parts: the plain function's. -/
set_option maxRecDepth 4000
namespace Go.Proofs.YtcheflcfoiclgaaDoor
open Go Go.RowKit
def RS (w wr : World) (v : Value) (M : List (BitVec 8)) : Prop :=
  wr.ownsRow (w.heap.size + 1) 5 1 v M.length (bytesV M) ∧ Row wr w.heap.size 29 (bs (zer 32)) ∧ Below w.heap.size w wr
theorem RS.step {w wr w4 : World} {v v1 : Value} {M q L : List (BitVec 8)} (h : RS w wr v M) (hL : L = M ++ q) (own : w4.ownsRow (w.heap.size + 1) 5 1 v1 (M.length + q.length) (bytesV M ++ bytesV q)) (hb : Below (w.heap.size + 1) wr w4) : RS w w4 v1 L := by
  subst hL
  obtain ⟨_, h2, h3⟩ := h
  exact ⟨by simpa [bytesV] using own, h2.below hb (by omega), h3.trans (hb.mono (by omega))⟩
theorem RS.start (w : World) : RS w (w.alloc (.cells (bs (zer 32)) 29)) (.slice none 0 0) [] :=
  ⟨World.ownsRow_nil _ _ _ _, Row.fresh _ _ _, (Below.refl _ _).alloc (Nat.le_refl _) _⟩
set_option maxHeartbeats 1600000 in
theorem refsum_core (ps : List (List (BitVec 8))) (M : List (BitVec 8)) (hF : ps.flatten = M) (v : Value) (w : World) (hv : Hand w v ps) (hn : ps.length ≤ 1000) (hM : M.length ≤ 100000) :
    Calls Tryd.prog 29 #[v] w fun e w' => e = .returned (.agg (bs (sha M))) ∧ Below w.heap.size w w' := by
  obtain ⟨A, c, rfl, hp⟩ := hv
  have HP := Lib.hid hp
  have HF := Lib.hid hF
  have HS0 := Lib.hid (RS.start w)
  clear hp hF
  go_enter Tryd.func29, Tryd.ntmps29
  go_wp2_with fail
  go_loopw [3, 4] (fun v i wr => ∃ k : Nat, k ≤ ps.length ∧ i = .int .i64 k ∧ RS w wr v (ps.take k).flatten) (fun _ i _ => ps.length - (intOf i).toNat)
  case atStart => exact ⟨0, by omega, rfl, HS0.out⟩
  case round =>
    clear HS0
    obtain ⟨k, hk, rfl, hR⟩ := hrel
    have hbr := hR.2.2
    by_cases hlt : k < ps.length
    · obtain ⟨b, o, rfl, hbl, hc⟩ := HP.out (by intro h; subst h; simp at hlt)
      obtain ⟨u, hu, hI⟩ := hc k ps[k] (List.getElem?_eq_getElem hlt)
      obtain ⟨Ai, ci, rfl, hS, hA, _⟩ := hI.below hbr (Nat.le_refl _)
      have hu2 := (hbr.cell (p := ⟨b, o + k, none⟩) hbl).trans hu
      have hfl := flat_le ps k hlt
      rw [HF.out, List.length_append] at hfl
      have HFS := Lib.hid (flat_succ ps k hlt)
      have hsz : w.heap.size + 1 ≤ wr.heap.size := hR.2.1.lt
      clear hc hu hI
      generalize (ps.take k).flatten = N at *
      have own := hR.1
      go_wp2_with (first | (at_builtin; refine wpList_append_slice rfl (.tmp 16) (.tmp 20) rfl (w.heap.size + 1) _ N.length (bytesV N) rfl own Ai ps[k].length ci ps[k] rfl hS hA (by omega) hsz ?_; intro v1 w4 own1 hb4))
      refine ⟨⟨k + 1, by omega, by go_num, hR.step HFS.out own1 hb4⟩, by simp [intOf]; omega⟩
    · obtain rfl : k = ps.length := by omega
      rw [List.take_length, HF.out] at hR
      obtain ⟨own, hr, _⟩ := hR
      clear HP HF hlt
      obtain ⟨A1, c1, rfl⟩ := own_form own
      go_wp2_with fail
      refine (refshapad_any M.length (by omega) wr).mono ?_
      rintro e w5 ⟨gp, cp, rfl, sp, hb5⟩
      have hpz := padSize_hi M.length
      have hpw := padSize_whole M.length
      have own5 := owns_call own hb5
      have r5 := hr.call hb5
      have hb05 : Below w.heap.size w w5 := hbr.trans (hb5.mono hbr.size)
      clear own hr hb5 hbr
      obtain ⟨L, hL⟩ : ∃ L, M ++ pad M.length = L := ⟨_, rfl⟩
      have HL := Lib.hid hL
      have HDL : Hid (sha M = dig (hashTo L)) := Lib.hid (by rw [← hL]; rfl)
      clear hL
      have hLn : L.length = M.length + padSize M.length := by rw [← HL.out, List.length_append, length_pad]
      have hL64 : L.length % 64 = 0 := by rw [hLn]; exact hpw
      have hLhi : L.length ≤ 100072 := by omega
      have HL64 := Lib.hid hL64
      have hsz5 : w.heap.size + 1 ≤ w5.heap.size := r5.lt
      clear hLn hL64 hpw
      go_wp2_with (first | (at_builtin; refine wpList_append_slice rfl (.tmp 22) (.tmp 26) rfl (w.heap.size + 1) _ M.length (bytesV M) rfl own5 (some ⟨gp, 0, none⟩) (padSize M.length) cp (pad M.length) rfl sp (fun h => by cases h) (by omega) hsz5 ?_; intro v2 w6 own6 hb6; obtain ⟨g, cap, rfl, hg, hgl, hcap2, hcell⟩ := all_form own6 HL.out; clear own6))
      have hb06 : Below w.heap.size w w6 := hb05.trans (hb6.mono (by omega))
      have r66 := r5.below hb6 (by omega)
      have HC := Lib.hid hcell
      clear own5 hb05 hb6 r5 sp hcell hpz
      refine (ref_h0 w6).mono ?_
      rintro e w7 ⟨rfl, hb7⟩
      have r67 := r66.call hb7
      have hb07 : Below w.heap.size w w7 := hb06.trans (hb7.mono hb06.size)
      have HC7 : Hid (∀ j x, L[j]? = some x → w7.cell? ⟨g, j, none⟩ = some (.int .u8 (bd x))) := Lib.hid fun j x hx => (hb7.cell (p := ⟨g, j, none⟩) hgl).trans (HC.out j x hx)
      have hgl7 : g < w7.heap.size := Nat.lt_of_lt_of_le hgl hb7.size
      clear r66 hb06 HC hgl hb7
      go_wp2_with (first | (refine wpList_store_row rfl 78 _ _ rfl w7.heap.size (ws h0) rfl rfl 78 _ (Row.fresh _ _ _) size_h (by kernel_rfl) (one_ws _) ?_; rw [World.setRow_alloc_new]))
      go_loopw [6] (fun i wr => ∃ k : Nat, 64 * k ≤ L.length ∧ i = .int .i64 (64 * (k : Int)) ∧ PR w wr w7.heap.size g w.heap.size L (zer 32) k) (fun i _ => L.length - (intOf i).toNat)
      case atStart => exact ⟨0, by omega, rfl, Row.fresh _ _ _, r67.alloc _, hb07.alloc hb07.size _, fun j x hx => (World.cell?_alloc_lt w7 _ ⟨g, j, none⟩ hgl7).trans (HC7.out j x hx), Nat.lt_of_lt_of_le hgl7 (by simp)⟩
      case round =>
        have h07 := r67.lt
        clear r67 hb07 HC7
        obtain ⟨t, ht, rfl, hR⟩ := hrel
        have HR := Lib.hid hR
        clear hR
        by_cases hlt : 64 * t < L.length
        · have h64 : 64 * t + 64 ≤ L.length := by have := HL64.out; omega
          have z1 := i64_id (64 * (t : Int) + 64) (by omega) (by omega)
          have i0 : (0 : Int) ≤ 64 * (t : Int) := by omega
          have i1 : 64 * (t : Int) + 64 ≤ (cap : Int) := by omega
          have i2 : 64 * (t : Int) ≤ (cap : Int) := by omega
          have i3 : 64 * (t : Int) ≤ 64 * (t : Int) + 64 := by omega
          have i4 : (0 : Int) ≤ 64 * (t : Int) + 64 := by omega
          have i5 : 64 * (t : Int) + 64 ≤ (L.length : Int) := by omega
          have t0 : (64 * (t : Int)).toNat = 64 * t := by omega
          have t1 : (64 * (t : Int) + 64).toNat = 64 * t + 64 := by omega
          have n0 : ¬ cap = 64 * t := by omega
          go_wp2_with fail
          change Code.wp _ _ _ _ (wr.alloc (.cells (bs (zer 64)) 62))
          have rx := Row.fresh wr 62 (bs (zer 64))
          have HX := Lib.hid (PR.call HR.out ((Below.refl wr.heap.size wr).alloc (Nat.le_refl _) (.cells (bs (zer 64)) 62)))
          have hgx : g < wr.heap.size := HR.out.2.2.2.2
          have hg6x : w.heap.size < wr.heap.size := HR.out.2.1.lt
          have hhx : w7.heap.size < wr.heap.size := HR.out.1.lt
          have hwr : w.heap.size ≤ wr.heap.size := HR.out.2.2.1.size
          clear HR
          generalize wr.alloc (.cells (bs (zer 64)) 62) = wx at *
          have HBL : Hid ((bytesV ((L.drop (64 * t)).take 64)).length = 64) := Lib.hid (by simp [bytesV]; omega)
          go_still_tail 6, (by kernel_rfl)
          change wpList _ _ _ _ _ wx.drew
          refine wpList_copy_own rfl _ _ 22 22 rfl 5 Tryd.underlying22 size_u8 wr.heap.size 0 64 64 ⟨g, 64 * t, none⟩ 64 (cap - 64 * t) rfl rfl (bs (zer 64)) 62 rx.drew (bytesV ((L.drop (64 * t)).take 64)) (by rw [HBL.out]; rfl) (src (src_at HX.out.2.2.2.1)) (by rw [size_bs, HBL.out]; simp [zer]) (one_bytesV _) ?_
          rw [copy_block L t h64]
          have HB : Hid (((L.drop (64 * t)).take 64).length = 64) := Lib.hid (by simp; omega)
          have ry := rx.drew.setRow (bs ((L.drop (64 * t)).take 64))
          have HY := Lib.hid (PR.setRow HX.out (gy := wr.heap.size) (by omega) (by omega) (by omega) hwr (bs ((L.drop (64 * t)).take 64)))
          clear rx HX z1 i0 i1 i2 i3 i4 i5 t0 t1 n0 HBL
          generalize wx.drew.setRow wr.heap.size (bs ((L.drop (64 * t)).take 64)) = wy at *
          have hz2 : 64 * (t : Int) + 64 ≤ 200000 := by omega
          go_wp2_with (first | (refine wpList_load_row rfl 78 _ rfl w7.heap.size rfl 78 (ws (turns L t)) (0, 0) _ HY.out.1 Tryd.underlying78 rfl (by rw [size_ws, length_turns]; exact size_h) ?_) | (refine wpList_load_row rfl 62 _ rfl wr.heap.size rfl 62 (bs ((L.drop (64 * t)).take 64)) (0, 0) _ ry Tryd.underlying62 rfl (by rw [size_bs, HB.out]; exact size_b) ?_))
          refine (ref_turn (turns L t) ((L.drop (64 * t)).take 64) (length_turns L t) HB.out wy).mono ?_
          rintro e w8 ⟨rfl, hb8⟩
          have HZ := Lib.hid (PR.call HY.out hb8)
          have HTN : Hid (turn (turns L t) ((L.drop (64 * t)).take 64) = turns L (t + 1)) := Lib.hid rfl
          rw [HTN.out]
          go_wp2_with (first | (refine wpList_store_row rfl 78 _ _ rfl w7.heap.size (ws (turns L (t + 1))) rfl rfl 78 _ HZ.out.1 (by rw [size_ws, length_turns]; exact size_h) (by rw [size_ws, size_ws, length_turns, length_turns]) (one_ws _) ?_))
          go_roundw
          case rel =>
            exact ⟨t + 1, by omega, by go_num, PR.turned HZ.out (by omega) (by omega) (by omega)⟩
          case measure => simp [intOf]; omega
        · obtain ⟨hr, hr6, hbr, _, _⟩ := HR.out
          have htl : 64 * t = L.length := by omega
          have HTL : Hid (turns L t = hashTo L) := Lib.hid (by rw [hashTo, ← htl, Nat.mul_div_cancel_left t (by omega)])
          have HH : Hid ((hashTo L).length = 8) := Lib.hid (length_hashTo L)
          have hle : ¬ 64 * (t : Int) + 64 ≤ (L.length : Int) := by omega
          rw [HTL.out] at hr
          clear HR htl HTL
          generalize hashTo L = H at *
          go_wp2_with fail
          have rd := Row.fresh wr 29 (bs (zer 32))
          go_loopw [9] (fun x wz => ∃ i : Nat, i ≤ 32 ∧ x = .int .i64 (i : Int) ∧ Row wz wr.heap.size 29 (bs (dpart H i)) ∧ Row wz w7.heap.size 78 (ws H) ∧ Row wz w.heap.size 29 (bs (zer 32)) ∧ Below w.heap.size w wz) (fun x _ => 32 - (intOf x).toNat)
          case atStart => exact ⟨0, by omega, rfl, by rw [dpart_zero]; exact rd, hr.alloc _, hr6.alloc _, hbr.alloc hbr.size _⟩
          case round =>
            have hwr := hbr.size
            have hhx := hr.lt
            have hg6x := hr6.lt
            clear rd hr hr6 hbr
            obtain ⟨i, hi, rfl, rd, hr, hr6, hbz⟩ := hrel
            by_cases hlti : i < 32
            · have ha8 : i / 4 < 8 := by omega
              have ch := hr.get (get_ws H (i / 4) (by rw [HH.out]; exact ha8))
              have cd := rd.get (get_bs (dpart H i) i (by rw [length_dpart H _ HH.out hi]; omega))
              have fd := rd.free i
              go_wp2_with fail
              exact ⟨⟨i + 1, by omega, by go_num, d_step HH.out hlti rd hr hr6 hbz (by omega) (by omega) (by omega)⟩, by simp [intOf]; omega⟩
            · obtain rfl : i = 32 := by omega
              rw [dpart_all H HH.out, ← HDL.out] at rd
              have HD : Hid ((sha M).length = 32) := Lib.hid (by rw [HDL.out, length_dig, HH.out])
              have HS : Hid ((Tryd.prog.info? 29).map (·.size) = some (bs (sha M)).size) := Lib.hid (by rw [size_bs, HD.out]; exact size_d)
              clear hlti hi hr
              go_wp2_with (first | (refine wpList_load_row rfl 29 (.tmp 8) rfl _ rfl 29 (bs (sha M)) (0, 0) _ rd Tryd.underlying29 rfl HS.out ?_) | (refine wpList_store_row rfl 29 _ _ rfl w.heap.size (bs (sha M)) rfl rfl 29 _ hr6 HS.out (by rw [size_bs, size_bs, HD.out]; rfl) (one_bs _) ?_))
              exact bodyPost_ret (v := .agg (bs (sha M))) (results_cell_row Tryd.results29 _ _ w.heap.size 29 (bs (sha M)) (0, 0) _ rfl (hr6.setRow _) Tryd.underlying29 rfl HS.out) rfl ⟨rfl, below_setRow hbz (Nat.le_refl _) _⟩
theorem refsum_any (ps : List (List (BitVec 8))) (v : Value) (w : World) (hv : Hand w v ps) (hn : ps.length ≤ 1000) (hM : ps.flatten.length ≤ 100000) :
    Calls Tryd.prog 29 #[v] w fun e w' => e = .returned (.agg (bs (sha ps.flatten))) ∧ Below w.heap.size w w' := refsum_core ps _ rfl v w hv hn hM
end Go.Proofs.YtcheflcfoiclgaaDoor

/- Lists of slices: as a list of values, of the call's own, handed on. -/
set_option maxRecDepth 4000
namespace Go.Proofs.YtcheflcfoiclgaaDoor
open Go Go.RowKit
theorem refsum_two (p q : List (BitVec 8)) (v : Value) (w : World) (hv : Hand w v [p, q]) (h : p.length + q.length ≤ 100000) (D : List (BitVec 8)) (hD : sha (p ++ q) = D) :
    Calls Tryd.prog 29 #[v] w fun e w' => e = .returned (.agg (bs D)) ∧ Below w.heap.size w w' := by
  subst hD
  have h := refsum_any [p, q] v w hv (by simp) (by simp; omega)
  rwa [show ([p, q] : List (List (BitVec 8))).flatten = p ++ q by simp] at h
end Go.Proofs.YtcheflcfoiclgaaDoor

/- The hash of a block and the parts behind it. -/
set_option maxRecDepth 4000
namespace Go.Proofs.YtcheflcfoiclgaaDoor
open Go Go.RowKit
set_option maxHeartbeats 1600000 in
theorem behind_any (l : List (BitVec 8)) (ps : List (List (BitVec 8))) (v : Value) (w : World) (hT : Tab w) (hl : l.length = 64) (hv : Parts w v ps) (hnil : ∀ n c, v = .slice none n c → c = 0) (hn : ps.length ≤ 1000000) (hlen : ps.flatten.length ≤ 1000000000) :
    Calls Tryd.prog 23 #[.agg (bs l), v] w fun e w' => e = .returned (.agg (bs (sha (l ++ ps.flatten)))) ∧ Below w.heap.size w w' := by
  obtain ⟨i1, hi1, hz10, hz11, hz12⟩ := info_parts info_sl
  obtain ⟨A, c, us, rfl, hul, huc, hun, huo, hus⟩ := hv.list
  have HT := Lib.hid hT
  have HL := Lib.hid hl
  have HUC := Lib.hid huc
  have HUS := Lib.hid hus
  have HUN : Hid (A = none → ps.length = 0 ∧ c = 0) := Lib.hid fun h => ⟨by rw [hun h]; rfl, hnil _ _ (by rw [h])⟩
  have HUO := Lib.hid huo
  have HF : Hid (sha (l :: ps).flatten = sha (l ++ ps.flatten)) := Lib.hid (by rw [List.flatten_cons])
  have HFL : Hid ((l :: ps).flatten.length < 2147483648) := Lib.hid (by rw [List.flatten_cons, List.length_append, hl]; omega)
  have HD : Hid ((sha (l ++ ps.flatten)).length = 32) := Lib.hid (length_sha _)
  clear hT hl huc hus hun hnil hv huo hlen
  have r0 : Row ((w.alloc (.cells (bs l) 62)).alloc (.cells (bs (zer 32)) 29)) w.heap.size 62 (bs l) := (Row.fresh _ _ _).alloc _
  have r1 : Row ((w.alloc (.cells (bs l) 62)).alloc (.cells (bs (zer 32)) 29)) (w.heap.size + 1) 29 (bs (zer 32)) := row2b _ _ _ _
  have hb1 : Below w.heap.size w ((w.alloc (.cells (bs l) 62)).alloc (.cells (bs (zer 32)) 29)) := ((Below.refl _ _).alloc (Nat.le_refl _) _).alloc (by simp) _
  have hs1 : ((w.alloc (.cells (bs l) 62)).alloc (.cells (bs (zer 32)) 29)).heap.size = w.heap.size + 1 + 1 := by simp
  generalize sha (l ++ ps.flatten) = D at *
  go_enter Tryd.func23, Tryd.ntmps23
  go_wp2_with (first
    | (at_make; refine wpList_make_own ((w.alloc (.cells (bs l) 62)).alloc (.cells (bs (zer 32)) 29)) rfl _ _ 56 rfl (w.heap.size + 1 + 1) 22 i1 (.slice none 0 0) 1 Tryd.underlying56 hi1 hz10 hz11 .i64 .i64 _ (1 + ps.length) rfl rfl (by omega) (by rw [hz12]; omega) (by unfold maxLen; omega) (by rw [hs1]; exact Nat.le_refl _) ?_; intro w2 own2 hg2; rw [hs1] at own2; have hq2 := below_of_grown (base := w.heap.size + 1 + 1) hg2 (fun g e => by cases e) (by rw [hs1]; exact Nat.le_refl _); have r02 := r0.below hq2 (by omega); have r12 := r1.below hq2 (by omega); have hb2 := hb1.trans (hq2.mono (by omega)); have hs2 := Nat.le_trans (Nat.le_of_eq hs1.symm) hg2.size; clear r0 r1 hb1 hg2 hq2)
    | (at_builtin; refine wpList_append_fits _ rfl (.tmp 10) (.tmp 12) 56 rfl (w.heap.size + 1 + 1) 22 i1 1 Tryd.underlying56 hi1 hz11 (w.heap.size + 1 + 1) 0 (1 + ps.length) [] rfl (own2.alloc _) ⟨w2.heap.size, 0, none⟩ 1 1 [.slice (some ⟨w.heap.size, 0, none⟩) 64 64] rfl rfl (cell_one_new _ _ _) (fun x hx => by simp at hx; subst hx; rfl) (by omega) ?_; intro w3 own3 hg3; simp only [Nat.zero_add, List.nil_append] at own3; have r03 := (r02.alloc _).only hg3 (by omega); have r13 := (r12.alloc _).only hg3 (by omega); have hb3 := (hb2.alloc hb2.size _).trans (below_only hg3 (by omega) (Nat.le_trans hb2.size (by simp))); have HC3 : Hid (∀ ad, A = some ad → ∀ (j : Nat) (u : Value), us[j]? = some u → w3.cell? (ad.add j) = some u) := Lib.hid (fun ad e j u hu => (hb3.cell (World.block_lt_of_cell? w _ (HUC.out ad e j u hu))).trans (HUC.out ad e j u hu)); clear own2 r02 r12 hb2 hg3 hs2)
    | (at_builtin; refine wpList_append_fits_any _ rfl (.tmp 14) (.tmp 15) 56 rfl (w.heap.size + 1 + 1) 22 i1 1 Tryd.underlying56 hi1 hz11 (w.heap.size + 1 + 1) 1 (1 + ps.length) [.slice (some ⟨w.heap.size, 0, none⟩) 64 64] rfl own3 A ps.length c us rfl (by omega) HUN.out HC3.out HUO.out (by omega) ?_; intro w4 own4 hg4; have r04 := r03.only hg4 (by omega); have r14 := r13.only hg4 (by omega); have hb4 := hb3.trans (below_only hg4 (by omega) hb3.size); clear own3 r03 r13 hb3 hg4 HC3))
  have hs64 : Slice w4 (.slice (some ⟨w.heap.size, 0, none⟩) 64 64) l := by
    have h := row_slice r04 (c := 64) (by rw [HL.out]; exact Nat.le_refl _)
    rw [HL.out] at h; exact h
  have hP := parts_own own4 (ps := ps) (by omega) hs64 (fun k q hq => by
    obtain ⟨u, h1, h2⟩ := HUS.out k q hq
    exact ⟨u, h1, h2.below hb4 (Nat.le_refl _)⟩)
  refine (sum_any (l :: ps) _ w4 (HT.out.below hb4 HT.out.pos) hP (by simp; omega) HFL.out).mono ?_
  rintro e w5 ⟨rfl, hb5⟩
  rw [HF.out]
  have r15 := r14.call hb5
  have hb05 := hb4.trans (hb5.mono hb4.size)
  have HS : Hid ((Tryd.prog.info? 29).map (·.size) = some (bs D).size) := Lib.hid (by rw [size_bs, HD.out]; exact size_d)
  clear hs64 hP r04 r14 hb4 hb5 own4
  go_wp2_with (first | (refine wpList_store_row rfl 29 _ _ rfl (w.heap.size + 1) (bs D) rfl rfl 29 _ r15 HS.out (by rw [size_bs, size_bs, HD.out]; rfl) (one_bs _) ?_))
  exact bodyPost_ret (v := .agg (bs D)) (results_cell_row Tryd.results23 _ _ (w.heap.size + 1) 29 (bs D) (0, 0) _ rfl (r15.setRow _) Tryd.underlying29 rfl HS.out) rfl ⟨rfl, below_setRow hb05 (by omega) _⟩
end Go.Proofs.YtcheflcfoiclgaaDoor

/- A copy of bytes into a block of the call's own. -/
set_option maxRecDepth 4000
namespace Go.Proofs.YtcheflcfoiclgaaDoor
open Go Go.RowKit
end Go.Proofs.YtcheflcfoiclgaaDoor

/- The key's block. -/
set_option maxRecDepth 4000
namespace Go.Proofs.YtcheflcfoiclgaaDoor
open Go Go.RowKit
theorem blockOf_long (key : List (BitVec 8)) (h : 64 < key.length) : sha key ++ (zer 64).drop (sha key).length = blockOf key := by
  rw [blockOf, if_pos h, length_sha, zer, zer, List.drop_replicate]
theorem blockOf_short (key : List (BitVec 8)) (h : ¬ 64 < key.length) : key ++ (zer 64).drop key.length = blockOf key := by
  rw [blockOf, if_neg h, zer, zer, List.drop_replicate]
set_option maxHeartbeats 800000 in
theorem macblock_any (key : List (BitVec 8)) (v : Value) (w : World) (hT : Tab w) (hv : Slice w v key) (hk : key.length < 2147483648) :
    Calls Tryd.prog 22 #[v] w fun e w' => e = .returned (.agg (bs (blockOf key))) ∧ Below w.heap.size w w' := by
  have HT := Lib.hid hT
  have HV := Lib.hid hv
  obtain ⟨A, c, rfl, _, _⟩ := hv
  clear hT
  have HS : Hid ((Tryd.prog.info? 62).map (·.size) = some (bs (blockOf key)).size) := Lib.hid (by rw [size_bs, length_blockOf]; exact size_b)
  have HL : Hid ((bs (blockOf key)).size = 64) := Lib.hid (by rw [size_bs, length_blockOf])
  have ra : Row ((w.alloc (.cells (bs (zer 64)) 62)).alloc (.cells (bs (zer 64)) 62)) w.heap.size 62 (bs (zer 64)) := (Row.fresh _ _ _).alloc _
  have rb : Row ((w.alloc (.cells (bs (zer 64)) 62)).alloc (.cells (bs (zer 64)) 62)) (w.heap.size + 1) 62 (bs (zer 64)) := row2b _ _ _ _
  have hb : Below w.heap.size w ((w.alloc (.cells (bs (zer 64)) 62)).alloc (.cells (bs (zer 64)) 62)) := ((Below.refl _ _).alloc (Nat.le_refl _) _).alloc (by simp) _
  by_cases hlong : 64 < key.length
  · have HB := Lib.hid (blockOf_long key hlong)
    go_enter Tryd.func22, Tryd.ntmps22
    go_wp2_with fail
    change Calls _ _ _ (((w.alloc (.cells (bs (zer 64)) 62)).alloc (.cells (bs (zer 64)) 62)).alloc _) _
    have hsz : ((w.alloc (.cells (bs (zer 64)) 62)).alloc (.cells (bs (zer 64)) 62)).heap.size = w.heap.size + 1 + 1 := by simp
    generalize (w.alloc (.cells (bs (zer 64)) 62)).alloc (.cells (bs (zer 64)) 62) = w1 at *
    have hp := parts1 (HV.out.below hb (Nat.le_refl _))
    rw [hsz] at hp
    refine (sum_any [key] _ _ (HT.out.below (hb.alloc hb.size _) HT.out.pos) hp (by simp) (by simp; omega)).mono ?_
    rintro e w2 ⟨rfl, hb2⟩
    rw [show ([key] : List (List (BitVec 8))).flatten = key by simp]
    have ra2 := (ra.alloc _).call hb2
    have rb2 := (rb.alloc _).call hb2
    have hb02 : Below w.heap.size w w2 := (hb.alloc hb.size _).trans (hb2.mono (Nat.le_trans hb.size (by simp)))
    have HD : Hid ((sha key).length = 32) := Lib.hid (length_sha key)
    clear ra rb hb hb2 hp hsz
    generalize sha key = D at *
    go_wp2_with (first | (refine wpList_store_row rfl 29 _ _ rfl w2.heap.size (bs D) rfl rfl 29 _ (Row.fresh _ _ _) (by rw [size_bs, HD.out]; exact size_d) (by rw [size_bs, HD.out]; rfl) (one_bs _) ?_; rw [World.setRow_alloc_new]))
    have ra3 := ra2.alloc (.cells (bs D) 29)
    have rb3 := rb2.alloc (.cells (bs D) 29)
    have hb3 := hb02.alloc hb02.size (.cells (bs D) 29)
    have rd : Slice (w2.alloc (.cells (bs D) 29)) (.slice (some ⟨w2.heap.size, 0, none⟩) 32 32) D := by
      have h := row_slice (Row.fresh w2 29 (bs D)) (c := 32) (by rw [HD.out]; exact Nat.le_refl _)
      rw [HD.out] at h; exact h
    clear ra2 rb2 hb02
    generalize w2.alloc (.cells (bs D) 29) = w3 at *
    go_still_tail 2, (by kernel_rfl)
    change wpList _ _ _ _ _ w3.drew
    refine wpList_copy_bytes rfl _ _ rfl (w.heap.size + 1) 64 64 rfl (.slice (some ⟨w2.heap.size, 0, none⟩) 32 32) rfl D (zer 64) rd 62 rb3.drew rfl (by rw [HD.out]; omega) ?_
    intro w4 rb4 hg4
    rw [HB.out] at rb4
    have ra4 := ra3.drew.only hg4 (by omega)
    have hb4 := hb3.drew.trans (only_below hg4 (by omega) hb3.size)
    clear rd ra3 rb3 hb3 hg4
    go_wp2_with (first | (refine wpList_load_row rfl 62 _ rfl (w.heap.size + 1) rfl 62 (bs (blockOf key)) (0, 0) _ rb4 Tryd.underlying62 rfl HS.out ?_) | (refine wpList_store_row rfl 62 _ _ rfl w.heap.size (bs (blockOf key)) rfl rfl 62 _ ra4 HS.out (by rw [HL.out, size_bs]; rfl) (one_bs _) ?_))
    exact bodyPost_ret (v := .agg (bs (blockOf key))) (results_cell_row Tryd.results22 _ _ w.heap.size 62 (bs (blockOf key)) (0, 0) _ rfl (ra4.setRow _) Tryd.underlying62 rfl HS.out) rfl ⟨rfl, below_setRow hb4 (Nat.le_refl _) _⟩
  · have HB := Lib.hid (blockOf_short key hlong)
    have d0 : decide ((64 : Int) < (key.length : Int)) = false := by simp; omega
    have hv1 := HV.out.below hb (Nat.le_refl _)
    go_enter Tryd.func22, Tryd.ntmps22
    go_wp2_with (first | (refine wpList_copy_bytes rfl _ _ rfl (w.heap.size + 1) 64 64 rfl (.slice A key.length c) rfl key (zer 64) hv1 62 rb rfl (by omega) ?_; intro w4 rb4 hg4; rw [HB.out] at rb4; have ra4 := ra.only hg4 (by omega); have hb4 := hb.trans (only_below hg4 (by omega) hb.size); clear ra rb hb hg4 hv1) | (refine wpList_load_row rfl 62 _ rfl (w.heap.size + 1) rfl 62 (bs (blockOf key)) (0, 0) _ rb4 Tryd.underlying62 rfl HS.out ?_) | (refine wpList_store_row rfl 62 _ _ rfl w.heap.size (bs (blockOf key)) rfl rfl 62 _ ra4 HS.out (by rw [HL.out, size_bs]; rfl) (one_bs _) ?_))
    exact bodyPost_ret (v := .agg (bs (blockOf key))) (results_cell_row Tryd.results22 _ _ w.heap.size 62 (bs (blockOf key)) (0, 0) _ rfl (ra4.setRow _) Tryd.underlying62 rfl HS.out) rfl ⟨rfl, below_setRow hb4 (Nat.le_refl _) _⟩
end Go.Proofs.YtcheflcfoiclgaaDoor

/- A block, each byte turned. -/
set_option maxRecDepth 4000
namespace Go.Proofs.YtcheflcfoiclgaaDoor
open Go Go.RowKit
attribute [local go_sem] xor_bd
set_option maxHeartbeats 400000 in
theorem turned_any (l : List (BitVec 8)) (x : BitVec 8) (hl : l.length = 64) (w : World) :
    Calls Tryd.prog 24 #[.agg (bs l), .int .u8 (bd x)] w fun e w' => e = .returned (.agg (bs (turnBy x l))) ∧ Below w.heap.size w w' := by
  have HL := Lib.hid hl
  clear hl
  go_enter Tryd.func24, Tryd.ntmps24
  go_wp2_with fail
  go_loopw [5, 6] (fun _ i wr => ∃ k : Nat, k ≤ 64 ∧ i = .int .i64 k ∧ Row wr w.heap.size 62 (bs (tpart x l k)) ∧ Row wr (w.heap.size + 1) 62 (bs (zer 64)) ∧ Below w.heap.size w wr) (fun _ i _ => 64 - (intOf i).toNat)
  case atStart => exact ⟨0, by omega, rfl, by rw [tpart_zero]; exact (Row.fresh _ _ _).alloc _, row2b _ _ _ _, ((Below.refl _ _).alloc (Nat.le_refl _) _).alloc (by simp) _⟩
  case round =>
    obtain ⟨k, hk, rfl, r1, r2, hb⟩ := hrel
    by_cases hlt : k < 64
    · have c0 := r1.get (get_bs (tpart x l k) k (by rw [length_tpart, HL.out]; exact hlt))
      rw [tpart_get x l k (by rw [HL.out]; exact hlt)] at c0
      have f0 := r1.free k
      go_wp2
      go_roundw
      case rel =>
        refine ⟨k + 1, by omega, by go_num, ?_, r2.far (by simp) _, hb.setCell (by simp) _⟩
        have h1 := r1.put k (.int .u8 (bd (l.getD k 0 ^^^ x)))
        rw [set_bs, tpart_set x l k (by rw [HL.out]; exact hlt)] at h1
        exact h1
      case measure => simp [intOf]; omega
    · obtain rfl : k = 64 := by omega
      have e : tpart x l 64 = turnBy x l := by rw [← HL.out]; exact tpart_all x l
      rw [e] at r1
      have HS : Hid ((Tryd.prog.info? 62).map (·.size) = some (bs (turnBy x l)).size) := Lib.hid (by rw [size_bs, length_turnBy, HL.out]; exact size_b)
      clear hlt hk e
      go_wp2_with (first | (refine wpList_load_row rfl 62 _ rfl w.heap.size rfl 62 (bs (turnBy x l)) (0, 0) _ r1 Tryd.underlying62 rfl HS.out ?_) | (refine wpList_store_row rfl 62 _ _ rfl (w.heap.size + 1) (bs (turnBy x l)) rfl rfl 62 _ r2 HS.out (by rw [size_bs, size_bs, length_turnBy, HL.out]; rfl) (one_bs _) ?_))
      exact bodyPost_ret (v := .agg (bs (turnBy x l))) (results_cell_row Tryd.results24 _ _ (w.heap.size + 1) 62 (bs (turnBy x l)) (0, 0) _ rfl (r2.setRow _) Tryd.underlying62 rfl HS.out) rfl ⟨rfl, below_setRow hb (by omega) _⟩
end Go.Proofs.YtcheflcfoiclgaaDoor

/- The tag of all parts by a key. -/
set_option maxRecDepth 4000
namespace Go.Proofs.YtcheflcfoiclgaaDoor
open Go Go.RowKit
theorem anyH_two {P : Program} {md : Region.Mode} {ops : Array Oper} {Q : Exit → Act → World → Prop} {S : World → Prop} {i j : Nat} {oi oj : Oper} {fuel : Nat} {listed : Array Bool} {a : Act} {w : World} (hr : Region.ready md ops listed = [i, j]) (hi : ops[i]? = some oi) (hj : ops[j]? = some oj)
    (h1 : ∀ K' : Act → World → Prop, (∀ a w, S w → wpAnyH P md ops Q S fuel (listed.setIfInBounds i true) a w → K' a w) → if Region.wanted oi (yielded ops a.tmps) = true then Oper.wp P oi a w K' Q else K' (a.put oi.dst undef) w)
    (h2 : ∀ K' : Act → World → Prop, (∀ a w, S w → wpAnyH P md ops Q S fuel (listed.setIfInBounds j true) a w → K' a w) → if Region.wanted oj (yielded ops a.tmps) = true then Oper.wp P oj a w K' Q else K' (a.put oj.dst undef) w) : wpAnyH P md ops Q S (fuel + 1) listed a w :=
  wpAnyH_all hr (by simp) fun k hk => by
    have hk' : k = i ∨ k = j := by simpa using hk
    rcases hk' with rfl | rfl
    · exact wpOp_step hi (fun K hK => h1 K fun a w h1 h2 => hK a w ⟨h1, h2⟩)
    · exact wpOp_step hj (fun K hK => h2 K fun a w h1 h2 => hK a w ⟨h1, h2⟩)
/- what stands while the outer hash is made -/
def MR (w : World) (g5 g6 : Nat) (B D : List (BitVec 8)) (W : World) : Prop := (∃ C : List (BitVec 8), C.length = 32 ∧ Row W w.heap.size 29 (bs C)) ∧ Row W g5 62 (bs B) ∧ Row W g6 29 (bs D) ∧ Tab W ∧ Below w.heap.size w W
theorem MR.call {w W W' : World} {g5 g6 : Nat} {B D : List (BitVec 8)} (h : MR w g5 g6 B D W) (hb : Below W.heap.size W W') : MR w g5 g6 B D W' :=
  ⟨by obtain ⟨C, h1, h2⟩ := h.1; exact ⟨C, h1, h2.call hb⟩, h.2.1.call hb, h.2.2.1.call hb, h.2.2.2.1.below hb h.2.2.2.1.pos, h.2.2.2.2.trans (hb.mono h.2.2.2.2.size)⟩
theorem MR.alloc {w W : World} {g5 g6 : Nat} {B D : List (BitVec 8)} (h : MR w g5 g6 B D W) (o : Obj) : MR w g5 g6 B D (W.alloc o) := h.call ((Below.refl _ _).alloc (Nat.le_refl _) _)
theorem MR.drew {w W : World} {g5 g6 : Nat} {B D : List (BitVec 8)} (h : MR w g5 g6 B D W) : MR w g5 g6 B D W.drew := ⟨h.1, h.2.1, h.2.2.1, h.2.2.2.1, h.2.2.2.2.drew⟩
theorem MR.rb {w W : World} {g5 g6 : Nat} {B D : List (BitVec 8)} (h : MR w g5 g6 B D W) : W.rangeAt g5 0 (bs B).toList := fun j v hv => by rw [Nat.zero_add, h.2.1.cell]; simpa using hv
theorem MR.put {w W : World} {g5 g6 : Nat} {B D : List (BitVec 8)} (h : MR w g5 g6 B D W) (h0 : 0 < w.heap.size) (h5 : w.heap.size < g5) (h6 : w.heap.size < g6) (C : List (BitVec 8)) (hC : C.length = 32) : MR w g5 g6 B D (W.setRow w.heap.size (bs C)) := by
  obtain ⟨⟨C0, _, h1⟩, h2, h3, h4, h5'⟩ := h
  have hb := below_setRow h5' (Nat.le_refl _) (bs C)
  refine ⟨⟨C, hC, h1.setRow _⟩, h2.setRow_far (by omega) _, h3.setRow_far (by omega) _, fun i hi => ?_, hb⟩
  exact (cell_setRow_other W w.heap.size _ ⟨0, i, none⟩ (Nat.ne_of_lt h0)).trans (h4 i hi)
theorem MR.dig {w W : World} {g5 g6 : Nat} {B D : List (BitVec 8)} (h : MR w g5 g6 B D W) (hD : D.length = 32) : Slice W (.slice (some ⟨g6, 0, none⟩) 32 32) D := by
  have h1 := row_slice h.2.2.1 (c := 32) (by rw [hD]; exact Nat.le_refl _)
  rw [hD] at h1; exact h1
theorem behind_one (l q : List (BitVec 8)) (v : Value) (w : World) (hT : Tab w) (hl : l.length = 64) (hv : Parts w v [q]) (hq : q.length = 32) (D : List (BitVec 8)) (hD : sha (l ++ q) = D) :
    Calls Tryd.prog 23 #[.agg (bs l), v] w fun e w' => e = .returned (.agg (bs D)) ∧ Below w.heap.size w w' := by
  subst hD
  have h := behind_any l [q] v w hT hl hv (fun n c e => by obtain ⟨A, c', h1, h2⟩ := hv; subst e; injection h1 with h1 _ _; obtain ⟨_, _, h3, _⟩ := h2 (by simp); rw [← h1] at h3; cases h3) (by simp) (by simp; omega)
  rwa [show ([q] : List (List (BitVec 8))).flatten = q by simp] at h
theorem turned_lit (l : List (BitVec 8)) (x : BitVec 8) (z : Int) (hz : bd x = z) (hl : l.length = 64) (w : World) :
    Calls Tryd.prog 24 #[.agg (bs l), .int .u8 z] w fun e w' => e = .returned (.agg (bs (turnBy x l))) ∧ Below w.heap.size w w' := by
  subst hz; exact turned_any l x hl w
set_option maxHeartbeats 1600000 in
theorem mac_any (key : List (BitVec 8)) (ps : List (List (BitVec 8))) (kv v : Value) (w : World) (hT : Tab w) (hk : Slice w kv key) (hkl : key.length < 2147483648) (hv : Parts w v ps) (hnil : ∀ n c, v = .slice none n c → c = 0) (hn : ps.length ≤ 1000000) (hlen : ps.flatten.length ≤ 1000000000) :
    Calls Tryd.prog 15 #[kv, v] w fun e w' => e = .returned (.agg (bs (tagOf key ps.flatten))) ∧ Below w.heap.size w w' := by
  have HT := Lib.hid hT
  have HK := Lib.hid hk
  have HV := Lib.hid hv
  have HNIL := Lib.hid hnil
  have HLEN := Lib.hid hlen
  obtain ⟨Ak, ck, rfl, _⟩ := hk
  obtain ⟨A, c, rfl, _⟩ := hv
  have HB : Hid ((blockOf key).length = 64) := Lib.hid (length_blockOf key)
  have HI : Hid ((sha (turnBy 0x36#8 (blockOf key) ++ ps.flatten)).length = 32) := Lib.hid (length_sha _)
  have HO : Hid (sha (turnBy 0x5c#8 (blockOf key) ++ sha (turnBy 0x36#8 (blockOf key) ++ ps.flatten)) = tagOf key ps.flatten) := Lib.hid rfl
  have HTL : Hid ((tagOf key ps.flatten).length = 32) := Lib.hid (length_tagOf _ _)
  clear hT hnil hlen
  generalize tagOf key ps.flatten = TG at *
  go_enter Tryd.func15, Tryd.ntmps15
  go_wp2_with fail
  have hb0 : Below w.heap.size w (w.alloc (.cells (bs (zer 32)) 29)) := (Below.refl _ _).alloc (Nat.le_refl _) _
  refine (macblock_any key _ (w.alloc (.cells (bs (zer 32)) 29)) (HT.out.below hb0 HT.out.pos) (HK.out.below hb0 (Nat.le_refl _)) hkl).mono ?_
  rintro e w1 ⟨rfl, hb1⟩
  have r4 := (Row.fresh w 29 (bs (zer 32))).call hb1
  have hb01 : Below w.heap.size w w1 := hb0.trans (hb1.mono (by simp))
  clear hb0 hb1
  generalize hBk : blockOf key = B at *
  clear hBk
  go_wp2_with (first | (refine wpList_store_row rfl 62 _ _ rfl w1.heap.size (bs B) rfl rfl 62 _ (Row.fresh _ _ _) (by rw [size_bs, HB.out]; exact size_b) (by rw [size_bs, HB.out]; rfl) (one_bs _) ?_; rw [World.setRow_alloc_new]) | (refine wpList_load_row rfl 62 (.tmp 5) rfl w1.heap.size rfl 62 (bs B) (0, 0) _ (Row.fresh _ _ _) Tryd.underlying62 rfl (by rw [size_bs, HB.out]; exact size_b) ?_))
  refine (turned_lit B 0x36#8 54 rfl HB.out _).mono ?_
  rintro e w2 ⟨rfl, hb2⟩
  have r42 := (r4.alloc (.cells (bs B) 62)).call hb2
  have r52 := (Row.fresh w1 62 (bs B)).call hb2
  have hb02 : Below w.heap.size w w2 := (hb01.alloc hb01.size _).trans (hb2.mono (Nat.le_trans hb01.size (by simp)))
  clear hb01 hb2
  go_wp2_with fail
  refine (behind_any (turnBy 0x36#8 B) ps _ w2 (HT.out.below hb02 HT.out.pos) (by rw [length_turnBy]; exact HB.out) (HV.out.below hb02 (Nat.le_refl _)) HNIL.out hn HLEN.out).mono ?_
  rintro e w3 ⟨rfl, hb3⟩
  generalize sha (turnBy 0x36#8 B ++ ps.flatten) = D at *
  have r43 := r42.call hb3
  have r53 := r52.call hb3
  have hb03 : Below w.heap.size w w3 := hb02.trans (hb3.mono hb02.size)
  clear r42 r52 hb02 hb3
  go_wp2_with (first | (refine wpList_store_row rfl 29 _ _ rfl w3.heap.size (bs D) rfl rfl 29 _ (Row.fresh _ _ _) (by rw [size_bs, HI.out]; exact size_d) (by rw [size_bs, HI.out]; rfl) (one_bs _) ?_; rw [World.setRow_alloc_new]))
  have hbx := hb03.alloc hb03.size (.cells (bs D) 29)
  have M0 : MR w w1.heap.size w3.heap.size B D (w3.alloc (.cells (bs D) 29)) := ⟨⟨_, rfl, r43.alloc _⟩, r53.alloc _, Row.fresh _ _ _, HT.out.below hbx HT.out.pos, hbx⟩
  have S0 := M0.drew
  have h51 : w.heap.size < w1.heap.size := r4.lt
  have h61 : w.heap.size < w3.heap.size := r43.lt
  clear r43 r53 hb03 hbx M0 r4
  have H31 : Hid ((Tryd.prog.info? 62).map (·.size) = some (bs B).toList.length) := Lib.hid (by rw [len_bs, HB.out]; exact size_b)
  have HS : Hid ((Tryd.prog.info? 29).map (·.size) = some (bs TG).size) := Lib.hid (by rw [size_bs, HTL.out]; exact size_d)
  generalize w3.alloc (.cells (bs D) 29) = w4 at *
  refine wp_region_held (S := MR w w1.heap.size w3.heap.size B D) (by kernel_rfl) ?_
  change wpAnyH _ _ _ _ _ _ _ _ w4.drew
  generalize w4.drew = w5 at *
  refine wpAnyH_take (i := 0) (oi := { dst := some 13, op := _, type := _, pos := _, after := _, guard := none }) (v := .agg (bs B)) rfl (by kernel_rfl) (by kernel_rfl) (by kernel_rfl) (fun _ _ _ h => h) (by rw [show (Value.agg (bs B)) = .agg (bs B).toList.toArray by simp]; exact yieldsIf_load_mid rfl 62 _ rfl w1.heap.size 0 rfl (bs B).toList _ (fun W hW => MR.rb hW) Tryd.underlying62 rfl H31.out) S0 ?_
  simp only [Act.put, List.setIfInBounds_toArray, List.set_cons_succ, List.set_cons_zero]
  refine wpAnyH_take (i := 2) (oi := { dst := some 15, op := _, type := _, pos := _, after := _, guard := none }) (v := .slice (some ⟨w3.heap.size, 0, none⟩) 32 32) rfl (by kernel_rfl) (by kernel_rfl) (by kernel_rfl) (fun _ _ _ h => h) (Or.inl ⟨by rfl, fun _ _ => by go_simp⟩) S0 ?_
  simp only [Act.put, List.setIfInBounds_toArray, List.set_cons_succ, List.set_cons_zero]
  refine anyH_two (i := 1) (j := 3) (oi := { dst := some 14, op := _, type := _, pos := _, after := _, guard := none }) (oj := { dst := some 16, op := _, type := _, pos := _, after := _, guard := none }) (by kernel_rfl) rfl rfl (fun K hK => ?_) (fun K hK => ?_)
  · go_simp
    refine (turned_lit B 0x5c#8 92 rfl HB.out w5).mono ?_
    rintro e wA ⟨rfl, hbA⟩
    have SA := S0.call hbA
    refine hK _ _ SA ?_
    clear hK K
    refine anyH_one (i := 3) (o := { dst := some 16, op := _, type := _, pos := _, after := _, guard := none }) (by kernel_rfl) rfl (fun K hK => ?_)
    go_simp
    have hP := parts1 (SA.dig HI.out)
    have SB := SA.alloc (.cells #[.slice (some ⟨w3.heap.size, 0, none⟩) 32 32] 22)
    generalize wA.heap.size = gx at *
    generalize wA.alloc (.cells #[.slice (some ⟨w3.heap.size, 0, none⟩) 32 32] 22) = wB at *
    refine hK _ _ SB ?_
    clear hK K
    refine anyH_one (i := 4) (o := { dst := some 17, op := _, type := _, pos := _, after := _, guard := none }) (by kernel_rfl) rfl (fun K hK => ?_)
    go_simp
    refine (behind_one (turnBy 0x5c#8 B) D _ wB SB.2.2.2.1 (by rw [length_turnBy]; exact HB.out) hP HI.out TG HO.out).mono ?_
    rintro e wC ⟨rfl, hbC⟩
    have SC := SB.call hbC
    refine hK _ _ SC ?_
    clear hK K
    obtain ⟨C0, hC0, hr0⟩ := SC.1
    refine anyH_one (i := 5) (o := { dst := none, op := _, type := _, pos := _, after := _, guard := none }) (by kernel_rfl) rfl (fun K hK => ?_)
    rw [if_pos (by rfl)]
    refine wp_store_row 29 _ _ rfl w.heap.size (bs TG) rfl rfl 29 _ hr0 HS.out (by rw [size_bs, size_bs, HTL.out]; exact hC0) (one_bs _) ?_
    refine hK _ _ (SC.put HT.out.pos h51 h61 TG HTL.out) ?_
    clear hK K
    refine wpAnyH_done (by kernel_rfl) ?_ _
    go_wp2_with fail
    exact bodyPost_ret (v := .agg (bs TG)) (results_cell_row Tryd.results15 _ _ w.heap.size 29 (bs TG) (0, 0) _ rfl (hr0.setRow _) Tryd.underlying29 rfl HS.out) rfl ⟨rfl, below_setRow SC.2.2.2.2 (Nat.le_refl _) _⟩
  · go_simp
    have hP0 := parts1 (S0.dig HI.out)
    have SA := S0.alloc (.cells #[.slice (some ⟨w3.heap.size, 0, none⟩) 32 32] 22)
    generalize w5.heap.size = gx at *
    generalize w5.alloc (.cells #[.slice (some ⟨w3.heap.size, 0, none⟩) 32 32] 22) = wA at *
    refine hK _ _ SA ?_
    clear hK K
    refine anyH_one (i := 1) (o := { dst := some 14, op := _, type := _, pos := _, after := _, guard := none }) (by kernel_rfl) rfl (fun K hK => ?_)
    go_simp
    refine (turned_lit B 0x5c#8 92 rfl HB.out wA).mono ?_
    rintro e wB ⟨rfl, hbB⟩
    have SB := SA.call hbB
    have hP := hP0.below hbB (Nat.le_refl _)
    refine hK _ _ SB ?_
    clear hK K
    refine anyH_one (i := 4) (o := { dst := some 17, op := _, type := _, pos := _, after := _, guard := none }) (by kernel_rfl) rfl (fun K hK => ?_)
    go_simp
    refine (behind_one (turnBy 0x5c#8 B) D _ wB SB.2.2.2.1 (by rw [length_turnBy]; exact HB.out) hP HI.out TG HO.out).mono ?_
    rintro e wC ⟨rfl, hbC⟩
    have SC := SB.call hbC
    refine hK _ _ SC ?_
    clear hK K
    obtain ⟨C0, hC0, hr0⟩ := SC.1
    refine anyH_one (i := 5) (o := { dst := none, op := _, type := _, pos := _, after := _, guard := none }) (by kernel_rfl) rfl (fun K hK => ?_)
    rw [if_pos (by rfl)]
    refine wp_store_row 29 _ _ rfl w.heap.size (bs TG) rfl rfl 29 _ hr0 HS.out (by rw [size_bs, size_bs, HTL.out]; exact hC0) (one_bs _) ?_
    refine hK _ _ (SC.put HT.out.pos h51 h61 TG HTL.out) ?_
    clear hK K
    refine wpAnyH_done (by kernel_rfl) ?_ _
    go_wp2_with fail
    exact bodyPost_ret (v := .agg (bs TG)) (results_cell_row Tryd.results15 _ _ w.heap.size 29 (bs TG) (0, 0) _ rfl (hr0.setRow _) Tryd.underlying29 rfl HS.out) rfl ⟨rfl, below_setRow SC.2.2.2.2 (Nat.le_refl _) _⟩
end Go.Proofs.YtcheflcfoiclgaaDoor

/- The document's example of a tag, reckoned by the kernel. -/
set_option maxRecDepth 4000
namespace Go.Proofs.YtcheflcfoiclgaaDoor
end Go.Proofs.YtcheflcfoiclgaaDoor

/- The chapter's examples of mac, asked by the statements. -/
set_option maxRecDepth 4000
namespace Go.Proofs.YtcheflcfoiclgaaDoor
open Go Go.RowKit
end Go.Proofs.YtcheflcfoiclgaaDoor

/- The statement MacMakes: its walk. -/
set_option maxRecDepth 4000
namespace Go.Proofs.YtcheflcfoiclgaaDoor
open Go Go.RowKit
attribute [local go_sem] xor_bd
/- a block of which the first k bytes are laid, each turned -/
def opart (x : BitVec 8) (l : List (BitVec 8)) (k : Nat) : List (BitVec 8) := turnBy x (l.take k) ++ zer (64 - k)
theorem length_opart (x : BitVec 8) (l : List (BitVec 8)) (k : Nat) (hl : l.length = 64) (hk : k ≤ 64) : (opart x l k).length = 64 := by
  rw [opart, List.length_append, length_turnBy, length_zer, List.length_take]; omega
theorem opart_zero (x : BitVec 8) (l : List (BitVec 8)) : opart x l 0 = zer 64 := by simp [opart, turnBy]
theorem opart_all (x : BitVec 8) (l : List (BitVec 8)) (hl : l.length = 64) : opart x l 64 = turnBy x l := by
  rw [opart, ← hl, List.take_length, Nat.sub_self]; simp [zer]
theorem opart_set (x : BitVec 8) (l : List (BitVec 8)) (k : Nat) (hl : l.length = 64) (hk : k < 64) : (opart x l k).set k (l.getD k 0 ^^^ x) = opart x l (k + 1) := by
  have e : (turnBy x (l.take k)).length = k := by rw [length_turnBy, List.length_take]; omega
  have hk' : k < l.length := by omega
  rw [opart, List.set_append_right _ _ (by omega), e, Nat.sub_self, show 64 - k = (64 - (k + 1)) + 1 by omega, zer, List.replicate_succ, List.set_cons_zero, opart, List.take_succ_eq_append_getElem hk']
  simp only [turnBy, List.map_append, List.map_cons, List.map_nil, List.append_assoc, List.cons_append, List.nil_append, List.getD_eq_getElem?_getD, List.getElem?_eq_getElem hk', Option.getD_some, zer]
theorem xor36 (x : BitVec 8) : bits .xor .u8 (bd x) 54 = bd (x ^^^ 0x36#8) := xor_bd x 0x36#8
theorem xor5c (x : BitVec 8) : bits .xor .u8 (bd x) 92 = bd (x ^^^ 0x5c#8) := xor_bd x 0x5c#8
attribute [local go_sem] xor36 xor5c
def KR (w : World) (g5 g6 g7 : Nat) (B : List (BitVec 8)) (k : Nat) (W : World) : Prop := Row W g5 62 (bs B) ∧ Row W g6 62 (bs (opart 0x36#8 B k)) ∧ Row W g7 62 (bs (opart 0x5c#8 B k)) ∧ Below w.heap.size w W
theorem KR.step {w wr : World} {g5 g6 g7 k : Nat} {B : List (BitVec 8)} (h : KR w g5 g6 g7 B k wr) (hB : B.length = 64) (hk : k < 64) (h5 : w.heap.size ≤ g5) (h6 : g6 = g5 + 1) (h7 : g7 = g5 + 1 + 1) {x : BitVec 8} (hx : B[k]?.getD 0#8 = x) :
    KR w g5 g6 g7 B (k + 1) ((wr.setCell ⟨g6, k, none⟩ (.int .u8 (bd (x ^^^ 0x36#8)))).setCell ⟨g7, k, none⟩ (.int .u8 (bd (x ^^^ 0x5c#8)))).drew := by
  obtain ⟨r5, r6, r7, hb⟩ := h
  have e : B.getD k 0 = x := by rw [List.getD_eq_getElem?_getD]; exact hx
  refine ⟨((r5.far (by simp; omega) _).far (by simp; omega) _).drew, ((?_ : Row _ _ _ _).far (by simp; omega) _).drew, Row.drew ?_, ((hb.setCell (by simp; omega) _).setCell (by simp; omega) _).drew⟩
  · have h1 := r6.put k (.int .u8 (bd (x ^^^ 0x36#8)))
    rw [set_bs, ← e, opart_set _ _ _ hB hk] at h1
    rw [← e]; exact h1
  · have h1 := (r7.far (p := ⟨g6, k, none⟩) (by simp; omega) (.int .u8 (bd (x ^^^ 0x36#8)))).put k (.int .u8 (bd (x ^^^ 0x5c#8)))
    rw [set_bs, ← e, opart_set _ _ _ hB hk] at h1
    rw [← e]; exact h1
/- what stands while the last line is reckoned -/
def SM (w : World) (g7 g9 : Nat) (O D : List (BitVec 8)) (W : World) : Prop := Row W g7 62 (bs O) ∧ Row W g9 29 (bs D) ∧ Tab W ∧ Below w.heap.size w W
theorem SM.call {w W W' : World} {g7 g9 : Nat} {O D : List (BitVec 8)} (h : SM w g7 g9 O D W) (hb : Below W.heap.size W W') : SM w g7 g9 O D W' :=
  ⟨h.1.call hb, h.2.1.call hb, h.2.2.1.below hb h.2.2.1.pos, h.2.2.2.trans (hb.mono h.2.2.2.size)⟩
theorem SM.alloc {w W : World} {g7 g9 : Nat} {O D : List (BitVec 8)} (h : SM w g7 g9 O D W) (o : Obj) : SM w g7 g9 O D (W.alloc o) := h.call ((Below.refl _ _).alloc (Nat.le_refl _) _)
theorem SM.drew {w W : World} {g7 g9 : Nat} {O D : List (BitVec 8)} (h : SM w g7 g9 O D W) : SM w g7 g9 O D W.drew := ⟨h.1, h.2.1, h.2.2.1, h.2.2.2.drew⟩
theorem SM.parts {w W : World} {g7 g9 : Nat} {O D : List (BitVec 8)} (h : SM w g7 g9 O D W) (hO : O.length = 64) (hD : D.length = 32) : Parts (W.alloc (.cells #[.slice (some ⟨g7, 0, none⟩) 64 64, .slice (some ⟨g9, 0, none⟩) 32 32] 22)) (.slice (some ⟨W.heap.size, 0, none⟩) 2 2) [O, D] := by
  have h1 := row_slice h.1 (c := 64) (by rw [hO]; exact Nat.le_refl _)
  have h2 := row_slice h.2.1 (c := 32) (by rw [hD]; exact Nat.le_refl _)
  rw [hO] at h1
  rw [hD] at h2
  exact parts2 h1 h2
theorem mac_one (key b : List (BitVec 8)) (kv v : Value) (w : World) (hT : Tab w) (hk : Slice w kv key) (hkl : key.length ≤ 1000000) (hv : Parts w v [b]) (hb : b.length ≤ 1000000) (T : List (BitVec 8)) (hTag : tagOf key b = T) :
    Calls Tryd.prog 15 #[kv, v] w fun e w' => e = .returned (.agg (bs T)) ∧ Below w.heap.size w w' := by
  subst hTag
  have h := mac_any key [b] kv v w hT hk (by omega) hv (fun n c e => by obtain ⟨A, c', h1, h2⟩ := hv; subst e; injection h1 with h1 _ _; obtain ⟨_, _, h3, _⟩ := h2 (by simp); rw [← h1] at h3; cases h3) (by simp) (by simp; omega)
  rwa [show ([b] : List (List (BitVec 8))).flatten = b by simp] at h
end Go.Proofs.YtcheflcfoiclgaaDoor

/- Tags chained, and bytes compared, as plain functions on lists. No program is named here. -/
set_option maxRecDepth 4000
namespace Go.Proofs.YtcheflcfoiclgaaDoor
open Go Go.RowKit
theorem ofInt_bd (x : BitVec 8) : BitVec.ofInt 8 (bd x) = x := by
  apply BitVec.eq_of_toNat_eq; unfold bd; rw [ofInt_u8 _ x.isLt]
theorem or_bd (x y : BitVec 8) : bits .or .u8 (bd x) (bd y) = bd (x ||| y) := by
  show IntKind.u8.wrap ((BitVec.ofInt 8 (bd x) ||| BitVec.ofInt 8 (bd y)).toNat : Int) = _
  rw [ofInt_bd, ofInt_bd]; exact wrap_bd _
/- what differs in the first k places -/
def dif (p q : List (BitVec 8)) : Nat → BitVec 8
  | 0 => if p.length = q.length then 0 else 1
  | k + 1 => dif p q k ||| (p.getD k 0 ^^^ q.getD k 0)
theorem or_zero8 (x y : BitVec 8) : x ||| y = 0 ↔ x = 0 ∧ y = 0 := by
  constructor
  · intro h
    have hx : ∀ i : Nat, (x.getLsbD i || y.getLsbD i) = false := fun i => by rw [← BitVec.getLsbD_or, h]; simp
    constructor
    · apply BitVec.eq_of_getLsbD_eq; intro i _; have := hx i; simp at this; simp [this.1]
    · apply BitVec.eq_of_getLsbD_eq; intro i _; have := hx i; simp at this; simp [this.2]
  · rintro ⟨rfl, rfl⟩; rfl
theorem dif_zero (p q : List (BitVec 8)) (k : Nat) : dif p q k = 0 ↔ p.length = q.length ∧ ∀ j, j < k → p.getD j 0 = q.getD j 0 := by
  induction k with
  | zero => unfold dif; split <;> simp_all
  | succ k ih =>
    unfold dif
    rw [or_zero8, ih]
    constructor
    · rintro ⟨⟨h1, h2⟩, h3⟩
      refine ⟨h1, fun j hj => ?_⟩
      by_cases hjk : j < k
      · exact h2 j hjk
      · obtain rfl : j = k := by omega
        exact BitVec.xor_eq_zero_iff.1 h3
    · rintro ⟨h1, h2⟩
      exact ⟨⟨h1, fun j hj => h2 j (by omega)⟩, BitVec.xor_eq_zero_iff.2 (h2 k (by omega))⟩
theorem dif_eq (p q : List (BitVec 8)) (n : Nat) (hn : p.length ≤ n) : dif p q n = 0 ↔ p = q := by
  rw [dif_zero]
  constructor
  · rintro ⟨h1, h2⟩
    apply List.ext_getElem h1
    intro j hj hj'
    have := h2 j (by omega)
    simpa [List.getD_eq_getElem?_getD, hj, hj'] using this
  · rintro rfl; exact ⟨rfl, fun _ _ => rfl⟩
theorem dif_bool (p q : List (BitVec 8)) (n : Nat) (hn : p.length ≤ n) : decide (bd (dif p q n) = 0) = decide (p = q) := by
  have h := dif_eq p q n hn
  have e : bd (dif p q n) = 0 ↔ dif p q n = 0 := ⟨fun h => bd_inj h, fun h => by rw [h]; rfl⟩
  rw [decide_eq_decide, e, h]
end Go.Proofs.YtcheflcfoiclgaaDoor

/- Whether two rows of bytes are alike: what Same answers. -/
set_option maxRecDepth 4000
namespace Go.Proofs.YtcheflcfoiclgaaDoor
open Go Go.RowKit
attribute [local go_sem] xor_bd or_bd
theorem byteat_any (q : List (BitVec 8)) (v : Value) (i : Nat) (w : World) (hs : Slice w v q) :
    Calls Tryd.prog 37 #[v, .int .i64 (i : Int)] w fun e w' => e = .returned (.int .u8 (bd (q.getD i 0))) ∧ w = w' := by
  obtain ⟨A, c, rfl, hc, h3⟩ := hs
  by_cases hlt : i < q.length
  · obtain ⟨b, o, rfl, _, h6⟩ := h3 (by intro e; subst e; simp at hlt)
    have hx := h6 i q[i] (List.getElem?_eq_getElem hlt)
    have e : q.getD i 0 = q[i] := by simp [List.getD_eq_getElem?_getD, hlt]
    rw [e]
    clear h6 h3 e
    generalize q[i] = x at *
    generalize q.length = n at *
    go_enter Tryd.func37, Tryd.ntmps37
    go_wp2
    go_ret
    exact ⟨rfl, rfl⟩
  · have e : q.getD i 0 = 0 := by simp [List.getD_eq_getElem?_getD, List.getElem?_eq_none (Nat.le_of_not_lt hlt)]
    rw [e]
    clear h3 e
    generalize q.length = n at *
    go_enter Tryd.func37, Tryd.ntmps37
    go_wp2
    go_ret
    exact ⟨rfl, rfl⟩
set_option maxHeartbeats 400000 in
theorem same_any (p q : List (BitVec 8)) (va vb : Value) (w : World) (hp : Slice w va p) (hq : Slice w vb q) (hpl : p.length ≤ 1000000) (hql : q.length ≤ 1000000) :
    Calls Tryd.prog 30 #[va, vb] w fun e w' => e = .returned (.bool (decide (p = q))) ∧ w = w' := by
  have HP := Lib.hid hp
  have HQ := Lib.hid hq
  obtain ⟨A, c, rfl, _⟩ := hp
  obtain ⟨A', c', rfl, _⟩ := hq
  have HD : Hid ((bd (dif p q (max p.length q.length)) == 0) = decide (p = q)) := Lib.hid (dif_bool p q (max p.length q.length) (Nat.le_max_left _ _))
  have HU : Hid (∀ k, dif p q (k + 1) = dif p q k ||| (p.getD k 0 ^^^ q.getD k 0)) := Lib.hid fun _ => rfl
  have H0 : Hid (dif p q 0 = if p.length = q.length then 0 else 1) := Lib.hid rfl
  have HE : Hid (∀ b, ((p.length : Int) != (q.length : Int)) = b → Value.int .u8 (if b then 1 else 0) = Value.int .u8 (bd (dif p q 0))) := Lib.hid fun b hb => by
    rw [H0.out]
    cases b with
    | true =>
      have hne : p.length ≠ q.length := fun e => by rw [e] at hb; simp at hb
      simp only [if_true, if_neg hne]; rfl
    | false =>
      have h : (p.length : Int) = (q.length : Int) := by simpa using hb
      have h' : p.length = q.length := by omega
      simp only [if_pos h']; rfl
  clear H0
  generalize dif p q = D at *
  go_enter Tryd.func30, Tryd.ntmps30
  go_wp2_with fail
  all_goals
    go_loopw [5, 17] (fun d i wr => ∃ k : Nat, k ≤ max p.length q.length ∧ i = .int .i64 k ∧ d = .int .u8 (bd (D k)) ∧ wr = w) (fun _ i _ => max p.length q.length - (intOf i).toNat)
    case atStart =>
      rename_i hpq _ _
      refine ⟨0, by omega, rfl, ?_, rfl⟩
      first | exact HE.out true hpq | exact HE.out false (by simpa using hpq)
    case round =>
      obtain ⟨k, hk, rfl, rfl, rfl⟩ := hrel
      by_cases hlt : k < max p.length q.length
      · have hu := Lib.hid (HU.out k)
        have c1 := byteat_any p _ k wr HP.out
        have c2 := byteat_any q _ k wr HQ.out
        generalize p.getD k 0 = x at *
        generalize q.getD k 0 = y at *
        have C1 := Lib.hid c1
        have C2 := Lib.hid c2
        clear c1 c2
        go_wp2_with fail
        refine C1.out.mono ?_
        rintro e w1 ⟨rfl, rfl⟩
        go_wp2_with fail
        refine C2.out.mono ?_
        rintro e w1 ⟨rfl, rfl⟩
        go_wp2_with fail
        go_roundw
        case rel => exact ⟨k + 1, by omega, by go_num, by rw [hu.out], trivial⟩
        case measure => simp [intOf]; omega
      · obtain rfl : k = max p.length q.length := by omega
        go_wp2_with fail
        go_ret
        exact ⟨congrArg (fun b => Ending.returned (.bool b)) HD.out, rfl⟩
end Go.Proofs.YtcheflcfoiclgaaDoor

/- Literals of bytes in a region that is walked by what each operation yields. -/
set_option maxRecDepth 4000
namespace Go.Proofs.YtcheflcfoiclgaaDoor
open Go Go.RowKit
section
variable {o : Oper} {a : Act} {w : World} {R : Value → World → Prop}
end
end Go.Proofs.YtcheflcfoiclgaaDoor

/- Strings of bytes compared. -/
set_option maxRecDepth 4000
namespace Go.Proofs.YtcheflcfoiclgaaDoor
open Go Go.RowKit
end Go.Proofs.YtcheflcfoiclgaaDoor

/- The document's names: Good, Pad, Cut. -/
set_option maxRecDepth 4000
namespace Go.Proofs.YtcheflcfoiclgaaDoor
open Go Go.RowKit
attribute [local go_sem] strB_size
set_option maxHeartbeats 1600000 in
theorem refgoodn_any (l : List (List (BitVec 8))) (v : Value) (w : World) (hv : Strs w v l) (hl : l.length ≤ maxLen) :
    Calls Tryd.prog 25 #[v] w fun e w' => e = .returned (.bool (goodNs l)) ∧ w = w' := by
  obtain ⟨A, c, rfl⟩ : ∃ A c, v = .slice A l.length c := by obtain ⟨A, c, h, _⟩ := hv; exact ⟨A, c, h⟩
  obtain ⟨n, hn⟩ : ∃ n, l.length = n := ⟨_, rfl⟩
  have HN := Lib.hid hn
  have HM : Hid (∀ q ∈ l, q.length ≤ maxLen) := Lib.hid (by obtain ⟨_, _, _, _, _, hm, _⟩ := hv; exact hm)
  rw [hn] at hv hl ⊢
  have HV := Lib.hid hv
  unfold maxLen at hl
  obtain ⟨G, hG⟩ : ∃ G, goodNs l = G := ⟨_, rfl⟩
  have HY : Hid ((∀ j < n, goodN (l.getD j []) = true) → G = true) := Lib.hid fun h => by rw [← hG]; exact good_all (by rw [hn]; exact h)
  have HNO : Hid (∀ j < n, goodN (l.getD j []) = false → G = false) := Lib.hid fun j hj h => by rw [← hG]; exact good_no (by rw [hn]; exact hj) h
  rw [hG]
  clear hn hG hv
  go_enter Tryd.func25, Tryd.ntmps25
  go_wp2_with fail
  go_loopw [3] (fun i wr => ∃ k : Nat, k ≤ n ∧ i = .int .i64 k ∧ (∀ j < k, goodN (l.getD j []) = true) ∧ wr = w) (fun i _ => n - (intOf i).toNat)
  case atStart => exact ⟨0, by omega, rfl, fun j hj => by omega, rfl⟩
  case round =>
    obtain ⟨k, hk, rfl, hok, rfl⟩ := hrel
    have HOK := Lib.hid hok
    clear hok
    by_cases hlt : k < n
    · obtain ⟨q, hx⟩ : ∃ x, l[k]? = some x := ⟨_, List.getElem?_eq_getElem (by rw [HN.out]; exact hlt)⟩
      have HQD : Hid (l.getD k [] = q) := Lib.hid (by rw [List.getD_eq_getElem?_getD, hx]; rfl)
      have HQM : Hid (q.length ≤ maxLen) := Lib.hid (HM.out q (List.mem_of_getElem? hx))
      obtain ⟨b, o, rfl, hbw, hcell⟩ := strs_at HV.out hx
      obtain ⟨m, hm⟩ : ∃ m, q.length = m := ⟨_, rfl⟩
      have hk0 : (0 : Int) ≤ (k : Int) := by omega
      have hk1 : (k : Int) < (n : Int) := by omega
      have hkd : decide ((k : Int) < (n : Int)) = true := decide_eq_true hk1
      have HQ4 : Hid (goodN q = (decide (1 ≤ m) && decide (m ≤ 4) && q.all letter)) := Lib.hid (by rw [← hm]; rfl)
      clear hx hbw
      by_cases h1 : m < 1
      · have hd1 : decide ((m : Int) < 1) = true := decide_eq_true (by omega)
        have hG : G = false := HNO.out k hlt (by rw [HQD.out, HQ4.out, decide_eq_false (by omega)]; rfl)
        go_wp2_with fail
        go_ret
        first | exact ⟨rfl, rfl⟩ | (rw [hG]; exact ⟨rfl, rfl⟩)
      have hd1 : decide ((m : Int) < 1) = false := decide_eq_false (by omega)
      by_cases h4 : 4 < m
      · have hd2 : decide ((4 : Int) < (m : Int)) = true := decide_eq_true (by omega)
        have hG : G = false := HNO.out k hlt (by rw [HQD.out, HQ4.out, decide_eq_false (show ¬ m ≤ 4 by omega), Bool.and_false]; rfl)
        go_wp2_with fail
        go_ret
        first | exact ⟨rfl, rfl⟩ | (rw [hG]; exact ⟨rfl, rfl⟩)
      have hd2 : decide ((4 : Int) < (m : Int)) = false := decide_eq_false (by omega)
      have HQ5 : Hid (goodN q = q.all letter) := Lib.hid (by rw [HQ4.out, decide_eq_true (by omega), decide_eq_true (by omega)]; rfl)
      have HML : Hid (q.length = m) := Lib.hid hm
      have HG0 : Hid (goodN q = false → G = false) := Lib.hid fun h => HNO.out k hlt (by rw [HQD.out, h])
      have HIX : Hid (∀ w (j : Nat), j < m → (Instr.index 9 (.string (strB q)) (.int .i64 (j : Int))).run Tryd.prog w = .ok (.int .u8 (bd (q.getD j 0#8))) w) := Lib.hid fun w j hj => run_ix w 9 q .i64 j Tryd.underlying9 (by rw [hm]; exact hj)
      have hw : IntKind.i64.wrap ((k : Int) + 1) = ((k + 1 : Nat) : Int) := by rw [i64_id _ (by omega) (by omega)]; omega
      go_wp2_with fail
      clear hd1 hd2
      go_loopw [4] (fun i ws => ∃ j : Nat, j ≤ m ∧ i = .int .i64 j ∧ (∀ s < j, letter (q.getD s 0#8) = true) ∧ ws = wr) (fun i _ => m - (intOf i).toNat)
      case atStart => exact ⟨0, by omega, rfl, fun j hj => by omega, rfl⟩
      case round =>
        obtain ⟨j, hj, rfl, hok, rfl⟩ := hrel
        have HOJ := Lib.hid hok
        clear hok
        by_cases hjm : j < m
        · have hix := fun w => HIX.out w j hjm
          have hj0 : decide ((j : Int) < (m : Int)) = true := decide_eq_true (by omega)
          have hj1 : (j : Int) < (m : Int) := by omega
          have hj2 : (0 : Int) ≤ (j : Int) := by omega
          obtain ⟨x, hx⟩ : ∃ x, q.getD j 0#8 = x := ⟨_, rfl⟩
          have HX := Lib.hid hx
          rw [hx] at hix
          clear hx
          by_cases h97 : bd x < 97
          · have hd1 : decide (bd x < 97) = true := decide_eq_true h97
            have hG : G = false := HG0.out (by rw [HQ5.out]; exact all_no (by rw [HML.out]; exact hjm) (by rw [HX.out]; unfold letter; rw [decide_eq_false (by omega)]; rfl))
            go_wp2_with fail
            go_ret
            first | exact ⟨rfl, rfl⟩ | (rw [hG]; exact ⟨rfl, rfl⟩)
          have hd1 : decide (bd x < 97) = false := decide_eq_false h97
          by_cases h122 : 122 < bd x
          · have hd2 : decide (122 < bd x) = true := decide_eq_true h122
            have hG : G = false := HG0.out (by rw [HQ5.out]; exact all_no (by rw [HML.out]; exact hjm) (by rw [HX.out]; unfold letter; rw [decide_eq_false (show ¬ bd x ≤ 122 by omega), Bool.and_false]))
            go_wp2_with fail
            go_ret
            first | exact ⟨rfl, rfl⟩ | (rw [hG]; exact ⟨rfl, rfl⟩)
          have hd2 : decide (122 < bd x) = false := decide_eq_false h122
          have hwj : IntKind.i64.wrap ((j : Int) + 1) = ((j + 1 : Nat) : Int) := by rw [i64_id _ (by omega) (by omega)]; omega
          go_wp2_with fail
          refine ⟨⟨j + 1, by omega, by go_num, fun s hs => ?_, trivial⟩, by simp [intOf]; omega⟩
          rcases Nat.lt_succ_iff_lt_or_eq.1 hs with h | h
          · exact HOJ.out s h
          · subst h; rw [HX.out]; unfold letter; rw [decide_eq_true (by omega), decide_eq_true (by omega)]; rfl
        · have hj0 : decide ((j : Int) < (m : Int)) = false := decide_eq_false (by omega)
          have HAL : Hid (q.all letter = true) := Lib.hid (all_of fun s hs => HOJ.out s (by rw [HML.out] at hs; omega))
          go_wp2_with fail
          refine ⟨⟨k + 1, by omega, by go_num, fun j hj => ?_, trivial⟩, by simp [intOf]; omega⟩
          rcases Nat.lt_succ_iff_lt_or_eq.1 hj with h | h
          · exact HOK.out j h
          · subst h; rw [HQD.out, HQ5.out]; exact HAL.out
    · have hkd : decide ((k : Int) < (n : Int)) = false := decide_eq_false (by omega)
      have hG : G = true := HY.out fun j hj => HOK.out j (by omega)
      go_wp2_with fail
      go_ret
      first | exact ⟨rfl, rfl⟩ | (rw [hG]; exact ⟨rfl, rfl⟩)
/- the first k bytes of a name laid -/
def padK (q : List (BitVec 8)) (k : Nat) : List (BitVec 8) := padN (q.take k)
theorem padK_zero (q : List (BitVec 8)) : padK q 0 = zer 4 := by unfold padK padN; rw [List.take_zero, List.nil_append, zer, List.take_replicate]; rfl
theorem padK_end (q : List (BitVec 8)) (k : Nat) (h : k = 4 ∨ q.length ≤ k) : padK q k = padN q := by
  rcases h with rfl | h
  · unfold padK padN
    rw [List.take_append, List.take_append, List.take_take, Nat.min_self, List.length_take]
    unfold zer
    rw [List.take_replicate, List.take_replicate]
    congr 2
    omega
  · unfold padK; rw [List.take_of_length_le h]
theorem padK_set (q : List (BitVec 8)) (k : Nat) (h : k < q.length) : (padK q k).set k (q.getD k 0#8) = padK q (k + 1) := by
  apply List.ext_getElem (by rw [List.length_set]; unfold padK; rw [length_padN, length_padN])
  intro i h1 h2
  have hi : i < 4 := by rw [List.length_set] at h1; unfold padK at h1; rw [length_padN] at h1; exact h1
  have g : ∀ k (hh : i < (padK q k).length), (padK q k)[i] = if i < k ∧ i < q.length then q.getD i 0#8 else 0#8 := fun k hh => by
    have e : padK q k = (q.take k ++ zer 4).take 4 := rfl
    rw [List.getElem_of_eq e, List.getElem_take]
    by_cases hc : i < k ∧ i < q.length
    · rw [if_pos hc, List.getElem_append_left (by rw [List.length_take]; omega), List.getElem_take, List.getD_eq_getElem?_getD, List.getElem?_eq_getElem hc.2]; rfl
    · rw [if_neg hc, List.getElem_append_right (by rw [List.length_take]; omega)]
      exact List.getElem_replicate ..
  rw [List.getElem_set, g _ (by simpa using h1), g]
  by_cases e : k = i
  · subst e; rw [if_pos rfl, if_pos ⟨by omega, h⟩]
  · rw [if_neg e]
    by_cases hc : i < k ∧ i < q.length
    · rw [if_pos hc, if_pos ⟨by omega, hc.2⟩]
    · rw [if_neg hc, if_neg (by omega)]
set_option maxHeartbeats 800000 in
theorem refpad_any (q : List (BitVec 8)) (w : World) (hm : q.length ≤ maxLen) :
    Calls Tryd.prog 26 #[.string (strB q)] w fun e w' => e = .returned (.agg (bs (padN q))) ∧ Below w.heap.size w w' := by
  obtain ⟨n, hn⟩ : ∃ n, q.length = n := ⟨_, rfl⟩
  have HN := Lib.hid hn
  have HMM := Lib.hid hm
  have HIX : Hid (∀ w (j : Nat), j < n → (Instr.index 9 (.string (strB q)) (.int .i64 (j : Int))).run Tryd.prog w = .ok (.int .u8 (bd (q.getD j 0#8))) w) := Lib.hid fun w j hj => run_ix w 9 q .i64 j Tryd.underlying9 (by rw [hn]; exact hj)
  have HS := St.nil w noF
  clear hm
  go_enter Tryd.func26, Tryd.ntmps26
  go_upto_region 3 with (first | ((with_reducible refine wpList_plain ?_ ?_); exact rfl; intro KK hKK; refine wp_st_alloc HS 59 (bs (zer 4)) rfl (.agg (bs (zer 4))) (by kernel_rfl) (rfl) (fun g2 W1 HSx => hKK _ _ ?_); clear hKK KK HS; have HS : St w noF [⟨g2, 59, bs (zer 4)⟩] W1 := HSx; clear HSx) | ((with_reducible refine wpList_plain ?_ ?_); exact rfl; intro KK hKK; refine wp_st_alloc HS 59 (bs (zer 4)) rfl (.agg (bs (zer 4))) (by kernel_rfl) (rfl) (fun g3 W2 HSx => hKK _ _ ?_); clear hKK KK HS; have HS : St w noF [⟨g2, 59, bs (zer 4)⟩, ⟨g3, 59, bs (zer 4)⟩] W2 := HSx; clear HSx))
  go_loopw [4] (fun i wr => ∃ k : Nat, k ≤ 4 ∧ k ≤ n ∧ i = .int .i64 k ∧ St w noF [⟨g2, 59, bs (zer 4)⟩, ⟨g3, 59, bs (padK q k)⟩] wr) (fun i _ => 4 - (intOf i).toNat)
  case atStart => exact ⟨0, by omega, by omega, rfl, by rw [padK_zero]; exact HS⟩
  case round =>
    clear HS
    obtain ⟨k, hk4, hkn, rfl, HS⟩ := hrel
    by_cases h4 : k < 4
    · have hd4 : decide ((k : Int) < 4) = true := decide_eq_true (by omega)
      by_cases hlt : k < n
      · have hdn : decide ((k : Int) < (n : Int)) = true := decide_eq_true (by omega)
        have hix := fun w => HIX.out w k hlt
        have hk0 : (0 : Int) ≤ (k : Int) := by omega
        have hk1 : (k : Int) < 4 := by omega
        have hw : IntKind.i64.wrap ((k : Int) + 1) = ((k + 1 : Nat) : Int) := by rw [i64_id _ (by omega) (by omega)]; omega
        have HPS := Lib.hid (padK_set q k (by rw [HN.out]; exact hlt))
        obtain ⟨x, hx⟩ : ∃ x, q.getD k 0#8 = x := ⟨_, rfl⟩
        rw [hx] at hix HPS
        clear hx
        have HFIT : Hid (k < (bs (padK q k)).size) := Lib.hid (by rw [size_bs]; unfold padK; rw [length_padN]; exact h4)
        go_wp2_with (first | ((with_reducible refine wpList_plain ?_ ?_); exact rfl; intro KK hKK; refine wp_st_put HS 1 k 5 (.tmp 19) (.tmp 18) rfl rfl rfl (.int .u8 (bd x)) rfl (by kernel_rfl) rfl rfl (HFIT.out) (bs (padK q (k + 1))) ((set_bs _ _ _).trans (congrArg bs HPS.out)) (fun W3 HSx => hKK _ _ ?_); clear hKK KK HS; have HS : St w noF [⟨g2, 59, bs (zer 4)⟩, ⟨g3, 59, bs (padK q (k + 1))⟩] W3 := HSx; clear HSx))
        exact ⟨⟨k + 1, by omega, by omega, by go_num, HS⟩, by simp [intOf]; omega⟩
      · have hdn : decide ((k : Int) < (n : Int)) = false := decide_eq_false (by omega)
        have HE := Lib.hid (padK_end q k (.inr (by rw [HN.out]; omega)))
        rw [HE.out] at HS
        go_wp2_with (first | ((with_reducible refine wpList_plain ?_ ?_); exact rfl; intro KK hKK; refine wp_st_load HS 1 0 59 (.tmp 3) rfl rfl rfl (bs (padN q)) (slab_whole _) _ Tryd.underlying59 rfl (by rw [size_bs, length_padN]; exact size_b4) (hKK _ _ ?_); clear hKK KK) | ((with_reducible refine wpList_plain ?_ ?_); exact rfl; intro KK hKK; refine wp_st_store HS 0 0 59 (.tmp 2) (.tmp 20) rfl rfl rfl (.agg (bs (padN q))) rfl (by rw [show Value.cells (.agg (bs (padN q))) = bs (padN q) from rfl, size_bs, length_padN]; exact size_b4) (by rw [show Value.cells (.agg (bs (padN q))) = bs (padN q) from rfl, size_bs, length_padN, size_bs, length_zer]; decide) (by exact one_bs _) (bs (padN q)) (spl_agg _ _ _ rfl (by rw [size_bs, size_bs, length_padN, length_zer])) (fun W4 HSx => hKK _ _ ?_); clear hKK KK HS; have HS : St w noF [⟨g2, 59, bs (padN q)⟩, ⟨g3, 59, bs (padN q)⟩] W4 := HSx; clear HSx))
        exact bodyPost_ret (v := .agg (bs (padN q))) (results_cell_row Tryd.results26 _ _ g2 59 (bs (padN q)) (0, 0) _ rfl (HS.row 0 rfl) Tryd.underlying59 rfl (by rw [size_bs, length_padN]; exact size_b4)) rfl ⟨rfl, HS.below⟩
    · have hd4 : decide ((k : Int) < 4) = false := decide_eq_false (by omega)
      have HE := Lib.hid (padK_end q k (.inl (by omega)))
      rw [HE.out] at HS
      go_wp2_with (first | ((with_reducible refine wpList_plain ?_ ?_); exact rfl; intro KK hKK; refine wp_st_load HS 1 0 59 (.tmp 3) rfl rfl rfl (bs (padN q)) (slab_whole _) _ Tryd.underlying59 rfl (by rw [size_bs, length_padN]; exact size_b4) (hKK _ _ ?_); clear hKK KK) | ((with_reducible refine wpList_plain ?_ ?_); exact rfl; intro KK hKK; refine wp_st_store HS 0 0 59 (.tmp 2) (.tmp 20) rfl rfl rfl (.agg (bs (padN q))) rfl (by rw [show Value.cells (.agg (bs (padN q))) = bs (padN q) from rfl, size_bs, length_padN]; exact size_b4) (by rw [show Value.cells (.agg (bs (padN q))) = bs (padN q) from rfl, size_bs, length_padN, size_bs, length_zer]; decide) (by exact one_bs _) (bs (padN q)) (spl_agg _ _ _ rfl (by rw [size_bs, size_bs, length_padN, length_zer])) (fun W4 HSx => hKK _ _ ?_); clear hKK KK HS; have HS : St w noF [⟨g2, 59, bs (padN q)⟩, ⟨g3, 59, bs (padN q)⟩] W4 := HSx; clear HSx))
      exact bodyPost_ret (v := .agg (bs (padN q))) (results_cell_row Tryd.results26 _ _ g2 59 (bs (padN q)) (0, 0) _ rfl (HS.row 0 rfl) Tryd.underlying59 rfl (by rw [size_bs, length_padN]; exact size_b4)) rfl ⟨rfl, HS.below⟩
end Go.Proofs.YtcheflcfoiclgaaDoor

/- The document's block of a key. -/
set_option maxRecDepth 4000
namespace Go.Proofs.YtcheflcfoiclgaaDoor
open Go Go.RowKit
theorem refsum_one (q : List (BitVec 8)) (v : Value) (w : World) (hv : Hand w v [q]) (h : q.length ≤ 100000) :
    Calls Tryd.prog 29 #[v] w fun e w' => e = .returned (.agg (bs (sha q))) ∧ Below w.heap.size w w' := by
  have h := refsum_any [q] v w hv (by simp) (by simpa using h)
  rwa [show ([q] : List (List (BitVec 8))).flatten = q by simp] at h
set_option maxHeartbeats 800000 in
theorem refblock_any (key : List (BitVec 8)) (v : Value) (w : World) (hv : Item w v key) (hk : key.length ≤ 100000) :
    Calls Tryd.prog 28 #[v] w fun e w' => e = .returned (.agg (bs (blockOf key))) ∧ Below w.heap.size w w' := by
  have HV := Lib.hid hv
  obtain ⟨A, c, rfl, _⟩ := hv
  have HS : Hid ((Tryd.prog.info? 62).map (·.size) = some (bs (blockOf key)).size) := Lib.hid (by rw [size_bs, length_blockOf]; exact size_b)
  have HL : Hid ((bs (blockOf key)).size = 64) := Lib.hid (by rw [size_bs, length_blockOf])
  have ra : Row ((w.alloc (.cells (bs (zer 64)) 62)).alloc (.cells (bs (zer 64)) 62)) w.heap.size 62 (bs (zer 64)) := (Row.fresh _ _ _).alloc _
  have rb : Row ((w.alloc (.cells (bs (zer 64)) 62)).alloc (.cells (bs (zer 64)) 62)) (w.heap.size + 1) 62 (bs (zer 64)) := row2b _ _ _ _
  have hb : Below w.heap.size w ((w.alloc (.cells (bs (zer 64)) 62)).alloc (.cells (bs (zer 64)) 62)) := ((Below.refl _ _).alloc (Nat.le_refl _) _).alloc (by simp) _
  by_cases hlong : 64 < key.length
  · have HB := Lib.hid (blockOf_long key hlong)
    go_enter Tryd.func28, Tryd.ntmps28
    go_wp2_with fail
    change Calls _ _ _ (((w.alloc (.cells (bs (zer 64)) 62)).alloc (.cells (bs (zer 64)) 62)).alloc _) _
    have hsz : ((w.alloc (.cells (bs (zer 64)) 62)).alloc (.cells (bs (zer 64)) 62)).heap.size = w.heap.size + 1 + 1 := by simp
    generalize (w.alloc (.cells (bs (zer 64)) 62)).alloc (.cells (bs (zer 64)) 62) = w1 at *
    have hp := hand1 (HV.out.below hb (Nat.le_refl _))
    rw [hsz] at hp
    refine (refsum_one key _ _ hp hk).mono ?_
    rintro e w2 ⟨rfl, hb2⟩
    have ra2 := (ra.alloc _).call hb2
    have rb2 := (rb.alloc _).call hb2
    have hb02 : Below w.heap.size w w2 := (hb.alloc hb.size _).trans (hb2.mono (Nat.le_trans hb.size (by simp)))
    have HD : Hid ((sha key).length = 32) := Lib.hid (length_sha key)
    clear ra rb hb hb2 hp hsz
    generalize sha key = D at *
    go_wp2_with (first | (refine wpList_store_row rfl 29 _ _ rfl w2.heap.size (bs D) rfl rfl 29 _ (Row.fresh _ _ _) (by rw [size_bs, HD.out]; exact size_d) (by rw [size_bs, HD.out]; rfl) (one_bs _) ?_; rw [World.setRow_alloc_new]))
    have ra3 := ra2.alloc (.cells (bs D) 29)
    have rb3 := rb2.alloc (.cells (bs D) 29)
    have hb3 := hb02.alloc hb02.size (.cells (bs D) 29)
    have rd : Slice (w2.alloc (.cells (bs D) 29)) (.slice (some ⟨w2.heap.size, 0, none⟩) 32 32) D := by
      have h := row_slice (Row.fresh w2 29 (bs D)) (c := 32) (by rw [HD.out]; exact Nat.le_refl _)
      rw [HD.out] at h; exact h
    clear ra2 rb2 hb02
    generalize w2.alloc (.cells (bs D) 29) = w3 at *
    go_still_tail 2, (by kernel_rfl)
    change wpList _ _ _ _ _ w3.drew
    refine wpList_copy_bytes rfl _ _ rfl (w.heap.size + 1) 64 64 rfl (.slice (some ⟨w2.heap.size, 0, none⟩) 32 32) rfl D (zer 64) rd 62 rb3.drew rfl (by rw [HD.out]; omega) ?_
    intro w4 rb4 hg4
    rw [HB.out] at rb4
    have ra4 := ra3.drew.only hg4 (by omega)
    have hb4 := hb3.drew.trans (only_below hg4 (by omega) hb3.size)
    clear rd ra3 rb3 hb3 hg4
    go_wp2_with (first | (refine wpList_load_row rfl 62 _ rfl (w.heap.size + 1) rfl 62 (bs (blockOf key)) (0, 0) _ rb4 Tryd.underlying62 rfl HS.out ?_) | (refine wpList_store_row rfl 62 _ _ rfl w.heap.size (bs (blockOf key)) rfl rfl 62 _ ra4 HS.out (by rw [HL.out, size_bs]; rfl) (one_bs _) ?_))
    exact bodyPost_ret (v := .agg (bs (blockOf key))) (results_cell_row Tryd.results28 _ _ w.heap.size 62 (bs (blockOf key)) (0, 0) _ rfl (ra4.setRow _) Tryd.underlying62 rfl HS.out) rfl ⟨rfl, below_setRow hb4 (Nat.le_refl _) _⟩
  · have HB := Lib.hid (blockOf_short key hlong)
    have d0 : decide ((64 : Int) < (key.length : Int)) = false := by simp; omega
    have hv1 := (HV.out.below hb (Nat.le_refl _)).slice
    go_enter Tryd.func28, Tryd.ntmps28
    go_wp2_with (first | (refine wpList_copy_bytes rfl _ _ rfl (w.heap.size + 1) 64 64 rfl (.slice A key.length c) rfl key (zer 64) hv1 62 rb rfl (by omega) ?_; intro w4 rb4 hg4; rw [HB.out] at rb4; have ra4 := ra.only hg4 (by omega); have hb4 := hb.trans (only_below hg4 (by omega) hb.size); clear ra rb hb hg4 hv1) | (refine wpList_load_row rfl 62 _ rfl (w.heap.size + 1) rfl 62 (bs (blockOf key)) (0, 0) _ rb4 Tryd.underlying62 rfl HS.out ?_) | (refine wpList_store_row rfl 62 _ _ rfl w.heap.size (bs (blockOf key)) rfl rfl 62 _ ra4 HS.out (by rw [HL.out, size_bs]; rfl) (one_bs _) ?_))
    exact bodyPost_ret (v := .agg (bs (blockOf key))) (results_cell_row Tryd.results28 _ _ w.heap.size 62 (bs (blockOf key)) (0, 0) _ rfl (ra4.setRow _) Tryd.underlying62 rfl HS.out) rfl ⟨rfl, below_setRow hb4 (Nat.le_refl _) _⟩
end Go.Proofs.YtcheflcfoiclgaaDoor

/- The document's tag of all parts by a key. -/
set_option maxRecDepth 4000
namespace Go.Proofs.YtcheflcfoiclgaaDoor
open Go Go.RowKit
attribute [local go_sem] xor_bd xor36 xor5c
/- what stands in the loop over a block's bytes -/
def RM (w : World) (g5 gi go : Nat) (B : List (BitVec 8)) (k : Nat) (W : World) : Prop := gi ≠ go ∧ g5 < gi ∧ g5 < go ∧ Row W w.heap.size 29 (bs (zer 32)) ∧ Row W g5 62 (bs B) ∧ Row W gi 5 (bs (opart 0x36#8 B k)) ∧ Row W go 5 (bs (opart 0x5c#8 B k)) ∧ Below w.heap.size w W
theorem RM.step {w wr : World} {g5 gi go k : Nat} {B : List (BitVec 8)} (h : RM w g5 gi go B k wr) (hB : B.length = 64) (hk : k < 64) (h5 : w.heap.size < g5) {x : BitVec 8} (hx : B[k]?.getD 0#8 = x) :
    RM w g5 gi go B (k + 1) ((wr.setCell ⟨gi, k, none⟩ (.int .u8 (bd (x ^^^ 0x36#8)))).setCell ⟨go, k, none⟩ (.int .u8 (bd (x ^^^ 0x5c#8)))).drew := by
  obtain ⟨ha, hb1, hb2, r4, r5, r6, r7, hb⟩ := h
  have e : B.getD k 0 = x := by rw [List.getD_eq_getElem?_getD]; exact hx
  refine ⟨ha, hb1, hb2, ((r4.far (by simp; omega) _).far (by simp; omega) _).drew, ((r5.far (by simp; omega) _).far (by simp; omega) _).drew, ((?_ : Row _ _ _ _).far (by simpa using ha) _).drew, Row.drew ?_, ((hb.setCell (by simp; omega) _).setCell (by simp; omega) _).drew⟩
  · have h1 := r6.put k (.int .u8 (bd (x ^^^ 0x36#8)))
    rw [set_bs, ← e, opart_set _ _ _ hB hk] at h1
    rw [← e]; exact h1
  · have h1 := (r7.far (p := ⟨gi, k, none⟩) (by simpa using Ne.symm ha) (.int .u8 (bd (x ^^^ 0x36#8)))).put k (.int .u8 (bd (x ^^^ 0x5c#8)))
    rw [set_bs, ← e, opart_set _ _ _ hB hk] at h1
    rw [← e]; exact h1
theorem RM.start {w w1 : World} {B : List (BitVec 8)} (hb : Below w.heap.size w w1) (r4 : Row w1 w.heap.size 29 (bs (zer 32))) :
    RM w w1.heap.size (w1.heap.size + 1) (w1.heap.size + 1 + 1) B 0 (((w1.alloc (.cells (bs B) 62)).alloc (.cells (bs (zer 64)) 5)).alloc (.cells (bs (zer 64)) 5)).drew ∧ RM w w1.heap.size (w1.heap.size + 1 + 1) (w1.heap.size + 1) B 0 (((w1.alloc (.cells (bs B) 62)).alloc (.cells (bs (zer 64)) 5)).alloc (.cells (bs (zer 64)) 5)).drew := by
  have a := ((r4.alloc (.cells (bs B) 62)).alloc (.cells (bs (zer 64)) 5)).alloc (.cells (bs (zer 64)) 5)
  have b := row3a w1 62 (bs B) (.cells (bs (zer 64)) 5) (.cells (bs (zer 64)) 5)
  have c := row3b w1 5 (bs (zer 64)) (.cells (bs B) 62) (.cells (bs (zer 64)) 5)
  have d := row3c w1 5 (bs (zer 64)) (.cells (bs B) 62) (.cells (bs (zer 64)) 5)
  have e := hb.trans ((below3 w1 (.cells (bs B) 62) (.cells (bs (zer 64)) 5) (.cells (bs (zer 64)) 5)).mono hb.size)
  unfold RM
  rw [opart_zero, opart_zero]
  exact ⟨⟨by omega, by omega, by omega, a, b, c, d, e.drew⟩, ⟨by omega, by omega, by omega, a, b, d, c, e.drew⟩⟩
theorem make64 (w : World) : (Instr.makeSlice 22 (.int .i64 64) (.int .i64 64)).run Tryd.prog w = .ok (.slice (some ⟨w.heap.size, 0, none⟩) 64 64) (w.alloc (.cells (bs (zer 64)) 5)) := by kernel_rfl
set_option maxHeartbeats 1600000 in
theorem refmac_any (key : List (BitVec 8)) (ps : List (List (BitVec 8))) (kv v : Value) (w : World) (hk : Item w kv key) (hkl : key.length ≤ 100000) (hv : Hand w v ps) (hnil : ∀ n c, v = .slice none n c → c = 0) (hn : ps.length ≤ 900) (hlen : ps.flatten.length ≤ 90000) :
    Calls Tryd.prog 17 #[kv, v] w fun e w' => e = .returned (.agg (bs (tagOf key ps.flatten))) ∧ Below w.heap.size w w' := by
  have HK := Lib.hid hk
  have HLEN := Lib.hid hlen
  obtain ⟨Ak, ck, rfl, _⟩ := hk
  obtain ⟨A, c, us, rfl, hul, huc, hun, huo, hus⟩ := hv.list
  have HUC := Lib.hid huc
  have HUS := Lib.hid hus
  have HUN : Hid (A = none → ps.length = 0 ∧ c = 0) := Lib.hid fun h => ⟨by rw [hun h]; rfl, hnil _ _ (by rw [h])⟩
  have HUO := Lib.hid huo
  clear huc hus hun huo hv
  have HB : Hid ((blockOf key).length = 64) := Lib.hid (length_blockOf key)
  have HI : Hid ((sha (turnBy 0x36#8 (blockOf key) ++ ps.flatten)).length = 32) := Lib.hid (length_sha _)
  have HO : Hid (sha (turnBy 0x5c#8 (blockOf key) ++ sha (turnBy 0x36#8 (blockOf key) ++ ps.flatten)) = tagOf key ps.flatten) := Lib.hid rfl
  have HTL : Hid ((tagOf key ps.flatten).length = 32) := Lib.hid (length_tagOf _ _)
  clear hnil hlen
  generalize tagOf key ps.flatten = TG at *
  go_enter Tryd.func17, Tryd.ntmps17
  go_wp2_with fail
  have hb0 : Below w.heap.size w (w.alloc (.cells (bs (zer 32)) 29)) := (Below.refl _ _).alloc (Nat.le_refl _) _
  refine (refblock_any key _ (w.alloc (.cells (bs (zer 32)) 29)) (HK.out.below hb0 (Nat.le_refl _)) hkl).mono ?_
  rintro e w1 ⟨rfl, hb1⟩
  have r4 := (Row.fresh w 29 (bs (zer 32))).call hb1
  have hb01 : Below w.heap.size w w1 := hb0.trans (hb1.mono (by simp))
  clear hb0 hb1
  generalize hBk : blockOf key = B at *
  clear hBk
  have h51 : w.heap.size < w1.heap.size := r4.lt
  have RS := Lib.hid (RM.start (B := B) hb01 r4)
  clear r4 hb01
  go_upto_region 2 with (first | (refine wpList_store_row rfl 62 _ _ rfl w1.heap.size (bs B) rfl rfl 62 _ (Row.fresh _ _ _) (by rw [size_bs, HB.out]; exact size_b) (by rw [size_bs, HB.out]; rfl) (one_bs _) ?_; rw [World.setRow_alloc_new]))
  go_frame
  go_cut [6, 7] (fun s6 s7 wx => ∃ gi go, s6 = .slice (some ⟨gi, 0, none⟩) 64 64 ∧ s7 = .slice (some ⟨go, 0, none⟩) 64 64 ∧ RM w w1.heap.size gi go B 0 wx)
  case first =>
    have hmk := make64
    go_region
    · go_wp2_with fail
      go_meet
      exact ⟨_, _, rfl, rfl, RS.out.1⟩
    · go_wp2_with fail
      go_meet
      exact ⟨_, _, rfl, rfl, RS.out.2⟩
  case rest =>
  obtain ⟨gi, go, rfl, rfl, hR0⟩ := hcut
  clear RS
  go_wp2_with fail
  go_loopw [8] (fun i wr => ∃ k : Nat, k ≤ 64 ∧ i = .int .i64 k ∧ RM w w1.heap.size gi go B k wr) (fun i _ => 64 - (intOf i).toNat)
  case atStart => exact ⟨0, by omega, rfl, hR0⟩
  case round =>
    clear hR0
    obtain ⟨k, hk, rfl, hR⟩ := hrel
    have HR := Lib.hid hR
    obtain ⟨ha, hx1, hx2, r4, r5, r6, r7, hbr⟩ := hR
    by_cases hlt : k < 64
    · have c5 := r5.get (get_bs B k (by rw [HB.out]; exact hlt))
      have c6 := r6.get (get_bs (opart 0x36#8 B k) k (by rw [length_opart _ _ _ HB.out hk]; exact hlt))
      have c7 := r7.get (get_bs (opart 0x5c#8 B k) k (by rw [length_opart _ _ _ HB.out hk]; exact hlt))
      have f6 := r6.free k
      have f7 := r7.free k
      clear r4 r5 r6 r7 hbr
      go_wp2
      go_region
      go_wp2
      go_roundw
      case rel =>
        refine ⟨k + 1, by omega, by go_num, ?_⟩
        exact RM.step HR.out HB.out hlt h51 rfl
      case measure => simp [intOf]; omega
    · obtain rfl : k = 64 := by omega
      clear HR hlt hk
      rw [opart_all _ _ HB.out] at r6 r7
      have HOL : Hid ((turnBy 0x5c#8 B).length = 64) := Lib.hid (by rw [length_turnBy]; exact HB.out)
      have HIL : Hid ((turnBy 0x36#8 B).length = 64) := Lib.hid (by rw [length_turnBy]; exact HB.out)
      generalize turnBy 0x5c#8 B = O at *
      generalize turnBy 0x36#8 B = I at *
      clear r5 ha
      have own1 := own_lit1 wr (.slice (some ⟨gi, 0, none⟩) 64 64)
      have hbx := hbr.alloc hbr.size (.cells #[.slice (some ⟨gi, 0, none⟩) 64 64] 22)
      have HCX : Hid (∀ ad, A = some ad → ∀ (j : Nat) (u : Value), us[j]? = some u → (wr.alloc (.cells #[.slice (some ⟨gi, 0, none⟩) 64 64] 22)).cell? (ad.add j) = some u) := Lib.hid fun ad e j u hu => (hbx.cell (World.block_lt_of_cell? w _ (HUC.out ad e j u hu))).trans (HUC.out ad e j u hu)
      go_wp2_with (first | (at_builtin; refine wpList_append_parts rfl (.tmp 33) (.tmp 34) rfl wr.heap.size _ 1 [.slice (some ⟨gi, 0, none⟩) 64 64] rfl own1 A ps.length c us rfl hul HCX.out HUN.out HUO.out (by omega) (by simp) ?_; intro v2 w2 own2 hb2; obtain ⟨A2, c2, rfl⟩ := own_form own2; clear own1))
      have hq2 : Below wr.heap.size wr w2 := ((Below.refl wr.heap.size wr).alloc (Nat.le_refl _) _).trans hb2
      have r42 := r4.call hq2
      have r62 := r6.call hq2
      have r72 := r7.call hq2
      have hb02 := hbr.trans (hq2.mono hbr.size)
      have hi2 := item_row r62 (c := 64) (by rw [HIL.out]; exact Nat.le_refl _) (by rw [HIL.out]; unfold maxLen; omega)
      rw [HIL.out] at hi2
      obtain ⟨g2, rfl⟩ : ∃ g2, A2 = some ⟨g2, 0, none⟩ := by
        rcases own2.2 with ⟨h, h0⟩ | ⟨g2, cap, cur, h, _⟩
        · exact absurd h0 (by omega)
        · injection h with h _ _; exact ⟨g2, h⟩
      have hH := hand_own own2 (ps := ps) (by omega) hi2 (fun k q hq => by
        obtain ⟨u, h1, h2⟩ := HUS.out k q hq
        exact ⟨u, h1, h2.below hb02 (Nat.le_refl _)⟩)
      clear r4 r6 r7 hbr hbx HCX hb2 hq2 r62 hi2 own2
      refine (refsum_any (I :: ps) _ w2 hH (by simp; omega) (by rw [List.flatten_cons, List.length_append, HIL.out]; have := HLEN.out; omega)).mono ?_
      rintro e w3 ⟨rfl, hb3⟩
      rw [List.flatten_cons]
      generalize sha (I ++ ps.flatten) = D at *
      have r43 := r42.call hb3
      have r73 := r72.call hb3
      have hb03 := hb02.trans (hb3.mono hb02.size)
      clear r42 r72 hb02 hb3 hH
      go_wp2_with (first | (refine wpList_store_row rfl 29 _ _ rfl w3.heap.size (bs D) rfl rfl 29 _ (Row.fresh _ _ _) (by rw [size_bs, HI.out]; exact size_d) (by rw [size_bs, HI.out]; rfl) (one_bs _) ?_; rw [World.setRow_alloc_new]))
      have i7 := item_row (r73.alloc (.cells (bs D) 29)) (c := 64) (by rw [HOL.out]; exact Nat.le_refl _) (by rw [HOL.out]; unfold maxLen; omega)
      have i9 := item_row (Row.fresh w3 29 (bs D)) (c := 32) (by rw [HI.out]; exact Nat.le_refl _) (by rw [HI.out]; unfold maxLen; omega)
      rw [HOL.out] at i7
      rw [HI.out] at i9
      have hH2 := hand2 i7 i9
      rw [show (w3.alloc (.cells (bs D) 29)).heap.size = w3.heap.size + 1 by simp] at hH2
      have r44 := (r43.alloc (.cells (bs D) 29)).alloc (.cells #[.slice (some ⟨go, 0, none⟩) 64 64, .slice (some ⟨w3.heap.size, 0, none⟩) 32 32] 22)
      have hb04 := (hb03.alloc hb03.size (.cells (bs D) 29)).alloc (Nat.le_trans hb03.size (by simp)) (.cells #[.slice (some ⟨go, 0, none⟩) 64 64, .slice (some ⟨w3.heap.size, 0, none⟩) 32 32] 22)
      clear i7 i9 r43 r73 hb03
      generalize (w3.alloc (.cells (bs D) 29)).alloc (.cells #[.slice (some ⟨go, 0, none⟩) 64 64, .slice (some ⟨w3.heap.size, 0, none⟩) 32 32] 22) = w4 at *
      refine (refsum_two O D _ w4 hH2 (by rw [HOL.out, HI.out]; omega) TG HO.out).mono ?_
      rintro e w5 ⟨rfl, hb5⟩
      have r45 := r44.call hb5
      have hb05 := hb04.trans (hb5.mono hb04.size)
      have HS : Hid ((Tryd.prog.info? 29).map (·.size) = some (bs TG).size) := Lib.hid (by rw [size_bs, HTL.out]; exact size_d)
      clear hH2 r44 hb04 hb5
      go_wp2_with (first | (refine wpList_store_row rfl 29 _ _ rfl w.heap.size (bs TG) rfl rfl 29 _ r45 HS.out (by rw [size_bs, size_bs, HTL.out]; rfl) (one_bs _) ?_))
      exact bodyPost_ret (v := .agg (bs TG)) (results_cell_row Tryd.results17 _ _ w.heap.size 29 (bs TG) (0, 0) _ rfl (r45.setRow _) Tryd.underlying29 rfl HS.out) rfl ⟨rfl, below_setRow hb05 (Nat.le_refl _) _⟩
end Go.Proofs.YtcheflcfoiclgaaDoor

/- A slice of bytes made of a constant text: its block bears a mark. No function of the program is named here. -/
set_option maxRecDepth 4000
namespace Go.Proofs.YtcheflcfoiclgaaDoor
open Go Go.RowKit
end Go.Proofs.YtcheflcfoiclgaaDoor

/- What an argument holds, read by its type: integers, bools, texts, rows of bytes, slices, structs, put together as the type is. No function of the program is named here. -/
set_option maxRecDepth 4000
namespace Go.Proofs.YtcheflcfoiclgaaDoor
open Go Go.ChangeShapes Go.WideShapes Go.ChangeAt Go.RowKit
/- the cells cs hold a, in the world w -/
def Rd (α : Type) := World → List Value → α → Prop
def Opens (P : Program) {α : Type} (t : TypeId) (R : Rd α) : Prop :=
  ∀ {H : Type} (enc : TypeId × Value → H) (W : World) (fuel : Nat) (cs : List Value) (x : DataW H × List MemPlace), DataW.trod enc P W 0 (fun _ => true) true fuel t cs = some x → (∀ y ∈ x.2, y.block < W.heap.size) → ∃ a, R W cs a
def rdInt (k : IntKind) : Rd Int := fun _ cs n => cs = [.int k n] ∧ (Lit.int k n).wf = true
def rdU8 : Rd (BitVec 8) := fun _ cs x => cs = [.int .u8 (bd x)]
def rdStr : Rd ByteArray := fun _ cs s => cs = [.string s] ∧ s.size ≤ maxLen
def rdRow (n : Nat) : Rd (List (BitVec 8)) := fun _ cs b => cs = bytesV b ∧ b.length = n
def rdNil : Rd Unit := fun _ cs _ => cs = []
def rdCons {α β : Type} (s : Nat) (R : Rd α) (T : Rd β) : Rd (α × β) := fun w cs ab => ∃ c d, cs = c ++ d ∧ c.length = s ∧ R w c ab.1 ∧ T w d ab.2
def rdSl {α : Type} (s : Nat) (R : Rd α) : Rd (List α) := fun w cs l => ∃ A c, cs = [.slice A l.length c] ∧ l.length ≤ c ∧ (A = none → c = 0) ∧ l.length ≤ maxLen ∧
  (l ≠ [] → ∃ b o, A = some ⟨b, o, none⟩ ∧ b < w.heap.size ∧ ∀ k x, l[k]? = some x → ∃ ds, ds.length = s ∧ w.rangeAt b (o + k * s) ds ∧ R w ds x)
section
variable {P : Program}
theorem opens_int {t : TypeId} {k : IntKind} (ht : P.underlying t = some (.int k)) : Opens P t (rdInt k) := fun _ _ _ _ _ h _ => by
  obtain ⟨n, h1, _, h2⟩ := DataW.trod_int ht h
  exact ⟨n, h1, h2⟩
theorem opens_u8 {t : TypeId} (ht : P.underlying t = some (.int .u8)) : Opens P t rdU8 := fun _ _ _ _ _ h _ => by
  obtain ⟨n, h1, _, h2⟩ := DataW.trod_int ht h
  have hb := bounds_u8 h2
  exact ⟨BitVec.ofInt 8 n, by unfold rdU8; rw [h1, ← bd_of n hb.1 (by omega)]⟩
theorem opens_str {t : TypeId} (ht : P.underlying t = some .string) : Opens P t rdStr := fun _ _ _ _ _ h _ => by
  obtain ⟨s, h1, _, h2⟩ := DataW.trod_string ht h
  exact ⟨s, h1, h2⟩
theorem opens_row {t e : TypeId} {n : Nat} (ht : P.underlying t = some (.array n e)) (he : P.underlying e = some (.int .u8)) (hce : P.cellsOf e = 1) (hct : P.cellsOf t = n) : Opens P t (rdRow n) := fun enc W fuel cs x h _ => by
  obtain ⟨xs, m, _, _, hl, hx, hi⟩ := DataW.trod_array ht h
  have hs : cs.length = n := by rw [hl, hct]
  have hint : ∀ i, i < n → ∃ z, cs[i]? = some (.int .u8 z) ∧ (Lit.int .u8 z).wf = true := fun i hin => by
    have h1 := hi i hin
    rw [List.getElem?_eq_getElem (by omega)] at h1
    obtain ⟨z, hz, _, hw⟩ := DataW.trod_int he h1
    refine ⟨z, ?_, hw⟩
    simp only [hce, Nat.mul_one] at hz
    rw [List.take_one, List.head?_drop] at hz
    cases hc : cs[i]? with
    | none => rw [hc] at hz; cases hz
    | some v => rw [hc] at hz; simpa using hz
  refine ⟨cs.map fun v => BitVec.ofInt 8 (intIn v), ?_, by simp [hs]⟩
  apply List.ext_getElem?
  intro i
  by_cases hin : i < n
  · obtain ⟨z, hz, hw⟩ := hint i hin
    have hb := bounds_u8 hw
    simp [bytesV, hz, intIn, ← bd_of z hb.1 (by omega)]
  · rw [List.getElem?_eq_none (by omega), List.getElem?_eq_none (by simp [bytesV]; omega)]
theorem opens_sl {α : Type} {t e : TypeId} {s : Nat} {R : Rd α} (ht : P.underlying t = some (.slice e)) (hs : P.cellsOf e = s) (hpos : 0 < s) (he : Opens P e R) : Opens P t (rdSl s R) := fun {H} enc W fuel cs x h hlt => by
  rcases Deep.open_slice ht h with ⟨h0, _⟩ | ⟨a, len, cap, m, n, D, Pl, hcs, _, hl, hm, hmm, hx, hi⟩
  · exact ⟨[], none, 0, h0, by simp, fun _ => rfl, by simp, fun h => absurd rfl h⟩
  · simp only [if_true] at hmm
    subst hmm
    have hlt' : ∀ y ∈ MemPlace.row a (m * P.cellsOf e) ++ (List.range m).flatMap Pl, y.block < W.heap.size := by rw [hx] at hlt; exact hlt
    have hR : ∀ i, i < len → ∃ b, ∃ ds, W.cells? 0 (a.add (i * s)) s = some ds ∧ R W ds b := fun i hil => by
      obtain ⟨ds, h1, h2⟩ := hi i (by omega)
      rw [hs] at h1
      obtain ⟨b, hb⟩ := he enc W n ds _ h2 fun y hy => hlt' y (List.mem_append_right _ (List.mem_flatMap.2 ⟨i, List.mem_range.2 (by omega), hy⟩))
      exact ⟨b, ds, h1, hb⟩
    by_cases h0 : len = 0
    · subst h0
      refine ⟨[], some a, m, hcs, by simp, fun h => (by cases h), by simp, fun h => absurd rfl h⟩
    · obtain ⟨b0, _⟩ := hR 0 (by omega)
      have hinh : Inhabited α := ⟨b0⟩
      obtain ⟨Q, hQ⟩ := Deep.choose_lt (α := α) (n := len) (p := fun i q => ∃ ds, W.cells? 0 (a.add (i * s)) s = some ds ∧ R W ds q) hR
      have hql : ((List.range len).map Q).length = len := by simp
      refine ⟨(List.range len).map Q, some a, m, by rw [hql]; exact hcs, by rw [hql]; exact hl, fun h => (by cases h), by rw [hql]; omega, fun _ => ?_⟩
      obtain ⟨b, off, spot⟩ := a
      have hspot : spot = none := by
        obtain ⟨ds, h1, _⟩ := hQ 0 (by omega)
        obtain ⟨_, h3, h4⟩ := World.cells?_some h1
        have h5 := h4 0 hpos
        rw [List.getElem?_eq_getElem (by omega)] at h5
        simpa [Addr.add] using World.cell?_spot h5
      subst hspot
      refine ⟨b, off, rfl, hlt' (.cell b off) (List.mem_append_left _ (MemPlace.mem_row.2 ⟨0, by rw [hs]; exact Nat.mul_pos (by omega) hpos, by simp⟩)), fun k x hk => ?_⟩
      have hkl : k < len := by have := (List.getElem?_eq_some_iff.1 hk).1; omega
      obtain ⟨ds, h1, h2⟩ := hQ k hkl
      obtain ⟨_, h3, h4⟩ := World.cells?_some h1
      obtain rfl : Q k = x := by simpa [hkl] using hk
      refine ⟨ds, h3, fun j v hv => ?_, h2⟩
      have hj : j < s := by have := (List.getElem?_eq_some_iff.1 hv).1; omega
      have h5 := h4 j hj
      rw [hv, Addr.add_mid, Addr.add_mid] at h5
      exact h5
/- the fields of a struct from offset o on -/
def OpensF (P : Program) {β : Type} (fs : List Field) (o : Nat) (T : Rd β) : Prop :=
  ∀ {H : Type} (enc : TypeId × Value → H) (W : World) (n : Nat) (cs : List Value) (xs : List (DataW H × List MemPlace)), xs.length = fs.length →
    (∀ (i : Nat) (f : Field), fs[i]? = some f → DataW.trod enc P W 0 (fun _ => true) true n f.type ((cs.drop f.offset).take (P.cellsOf f.type)) = xs[i]?) → (∀ y ∈ xs.flatMap (·.2), y.block < W.heap.size) → cs.length = o + (fs.map fun f => P.cellsOf f.type).sum → ∃ b, T W (cs.drop o) b
theorem opensF_nil {o : Nat} : OpensF P [] o rdNil := fun _ _ _ _ _ _ _ _ hl => ⟨(), by
  unfold rdNil
  simp only [List.map_nil, List.sum_nil, Nat.add_zero] at hl
  rw [← hl, List.drop_length]⟩
theorem opensF_cons {α β : Type} {f : Field} {fs : List Field} {o s : Nat} {R : Rd α} {T : Rd β} (ho : f.offset = o) (hs : P.cellsOf f.type = s) (h : Opens P f.type R) (t : OpensF P fs (o + s) T) : OpensF P (f :: fs) o (rdCons s R T) := fun {H} enc W n cs xs hxl hf hlt hl => by
  cases xs with
  | nil => simp at hxl
  | cons x xs =>
    simp only [List.length_cons, Nat.add_right_cancel_iff] at hxl
    have h0 := hf 0 f rfl
    simp only [List.getElem?_cons_zero] at h0
    rw [ho, hs] at h0
    obtain ⟨a, ha⟩ := h enc W n _ x h0 fun y hy => hlt y (by simp [hy])
    simp only [List.map_cons, List.sum_cons, hs] at hl
    obtain ⟨b, hb⟩ := t enc W n cs xs hxl (fun i g hg => by have := hf (i + 1) g (by simpa using hg); simpa using this) (fun y hy => hlt y (by simp only [List.flatMap_cons, List.mem_append]; exact .inr hy)) (by omega)
    refine ⟨(a, b), (cs.drop o).take s, cs.drop (o + s), ?_, by rw [List.length_take, List.length_drop]; omega, ha, hb⟩
    rw [← List.drop_drop, List.take_append_drop]
theorem opens_struct {β : Type} {t : TypeId} {fs : Array Field} {T : Rd β} (ht : P.underlying t = some (.struct fs)) (hc : P.cellsOf t = (fs.toList.map fun f => P.cellsOf f.type).sum) (h : OpensF P fs.toList 0 T) : Opens P t T := fun {H} enc W fuel cs x hx hlt => by
  obtain ⟨xs, n, _, hy, hlen, hyl, hf⟩ := DataW.trod_struct ht hx
  subst hy
  obtain ⟨b, hb⟩ := h enc W n cs xs (by rw [hyl]; exact Array.length_toList.symm) (fun i f hi => hf i f (by rw [← Array.getElem?_toList]; exact hi)) hlt (by rw [hlen, hc, Nat.zero_add])
  exact ⟨b, by simpa using hb⟩
end
/- an argument of a card -/
theorem open_arg {P : Program} {α : Type} {t : TypeId} {R : Rd α} (h : Opens P t R) {H : Type} {enc : TypeId × Value → H} {W : World} {v : Value} {d : DataW H} {ps : List MemPlace} (hT : DataW.Trod enc P W 0 (fun _ => true) true t v d ps) (hlt : ∀ y ∈ ps, y.block < W.heap.size) : ∃ a, R W v.cells.toList a := by
  obtain ⟨fuel, hf⟩ := hT
  exact h enc W fuel _ _ hf hlt
theorem okWide_rec {P : Program} {w : World} {r : Reach} {base : Nat} {t : TypeId} {fs : Array Field} {v : Value} (ht : P.underlying t = some (.struct fs)) (h : Value.okWide P w r base t v) : ∃ cs, v = .agg cs := by
  simp only [Value.okWide, ht] at h
  cases v <;> simp_all
/- an argument that is a struct -/
theorem open_argRec {P : Program} {α : Type} {t : TypeId} {fs : Array Field} {R : Rd α} (ht : P.underlying t = some (.struct fs)) (ho : Opens P t R) {H : Type} {enc : TypeId × Value → H} {W : World} {r : Reach} {base : Nat} {v : Value} {d : DataW H} {ps : List MemPlace} (hval : Value.okWide P W r base t v) (hT : DataW.Trod enc P W 0 (fun _ => true) true t v d ps) (hlt : ∀ y ∈ ps, y.block < W.heap.size) : ∃ cs x, v = .agg cs.toArray ∧ R W cs x := by
  obtain ⟨cs, rfl⟩ := okWide_rec ht hval
  obtain ⟨x, hx⟩ := open_arg ho hT hlt
  exact ⟨cs.toList, x, by simp, by simpa [Value.cells] using hx⟩
/- slices of bytes as these readers have them -/
theorem rdSl_item {w : World} {u : Value} {q : List (BitVec 8)} (h : rdSl 1 rdU8 w [u] q) : Item w u q := by
  obtain ⟨A, c, h1, h2, h3, h4, h5⟩ := h
  injection h1 with h1 _
  refine ⟨A, c, h1, ⟨A, c, rfl, h2, fun hne => ?_⟩, h3, h4⟩
  obtain ⟨b, o, h6, h7, h8⟩ := h5 hne
  refine ⟨b, o, h6, h7, fun j x hx => ?_⟩
  obtain ⟨ds, _, h9, h10⟩ := h8 j x hx
  have := h9 0 (.int .u8 (bd x)) (by rw [h10]; rfl)
  simpa using this
end Go.Proofs.YtcheflcfoiclgaaDoor

/- Arguments of words (uint32, uint16, arrays of them) opened. No function of the program is named here. -/
set_option maxRecDepth 4000
namespace Go.Proofs.YtcheflcfoiclgaaDoor
open Go Go.ChangeShapes Go.WideShapes Go.ChangeAt Go.RowKit
def rdU32 : Rd (BitVec 32) := fun _ cs x => cs = [.int .u32 (wd x)]
theorem bounds_u32L {n : Int} (h : (Lit.int .u32 n).wf = true) : 0 ≤ n ∧ n < 4294967296 := by
  simp only [Lit.wf, Bool.and_eq_true, decide_eq_true_eq] at h
  have h1 : IntKind.u32.min = 0 := by decide
  have h2 : IntKind.u32.max = 4294967295 := by decide
  omega
theorem opens_u32 {P : Program} {t : TypeId} (ht : P.underlying t = some (.int .u32)) : Opens P t rdU32 := fun _ _ _ _ _ h _ => by
  obtain ⟨n, h1, _, h2⟩ := DataW.trod_int ht h
  have hb := bounds_u32L h2
  exact ⟨BitVec.ofInt 32 n, by unfold rdU32; rw [h1, ← wd_of n hb.1 hb.2]⟩
end Go.Proofs.YtcheflcfoiclgaaDoor

/- Integers that are handed in, as plain numbers. -/
set_option maxRecDepth 4000
namespace Go.Proofs.YtcheflcfoiclgaaDoor
open Go Go.RowKit
end Go.Proofs.YtcheflcfoiclgaaDoor
