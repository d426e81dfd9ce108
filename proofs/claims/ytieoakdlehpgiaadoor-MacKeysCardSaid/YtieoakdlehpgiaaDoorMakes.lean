/- The statement MacMakes: its walk. -/
import Derived.Test.YtieoakdlehpgiaaDoorMacWakes
namespace Go.Proofs.YtieoakdlehpgiaaDoor
open Go Go.RowKit
attribute [local go_sem] xor_bd
/- a block of which the first k bytes are laid, each turned -/
def opart (x : BitVec 8) (l : List (BitVec 8)) (k : Nat) : List (BitVec 8) := turnBy x (l.take k) ++ zer (64 - k)
theorem length_opart (x : BitVec 8) (l : List (BitVec 8)) (k : Nat) (hl : l.length = 64) (hk : k ≤ 64) : (opart x l k).length = 64 := by
  rw [opart, List.length_append, length_turnBy, length_zer, List.length_take]; omega
theorem opart_zero (x : BitVec 8) (l : List (BitVec 8)) : opart x l 0 = zer 64 := by simp [opart, turnBy]
theorem opart_all (x : BitVec 8) (l : List (BitVec 8)) (hl : l.length = 64) : opart x l 64 = turnBy x l := by
  rw [opart, ← hl, List.take_length, Nat.sub_self]; simp [zer]
theorem opart_set (x : BitVec 8) (l : List (BitVec 8)) (k : Nat) (hl : l.length = 64) (hk : k < 64) : (opart x l k).set k (l.getD k 0 ^^^ x) = opart x l (k + 1) := by
  have e : (turnBy x (l.take k)).length = k := by rw [length_turnBy, List.length_take]; omega
  have hk' : k < l.length := by omega
  rw [opart, List.set_append_right _ _ (by omega), e, Nat.sub_self, show 64 - k = (64 - (k + 1)) + 1 by omega, zer, List.replicate_succ, List.set_cons_zero, opart, List.take_succ_eq_append_getElem hk']
  simp only [turnBy, List.map_append, List.map_cons, List.map_nil, List.append_assoc, List.cons_append, List.nil_append, List.getD_eq_getElem?_getD, List.getElem?_eq_getElem hk', Option.getD_some, zer]
theorem xor36 (x : BitVec 8) : bits .xor .u8 (bd x) 54 = bd (x ^^^ 0x36#8) := xor_bd x 0x36#8
theorem xor5c (x : BitVec 8) : bits .xor .u8 (bd x) 92 = bd (x ^^^ 0x5c#8) := xor_bd x 0x5c#8
attribute [local go_sem] xor36 xor5c
def KR (w : World) (g5 g6 g7 : Nat) (B : List (BitVec 8)) (k : Nat) (W : World) : Prop := Row W g5 31 (bs B) ∧ Row W g6 31 (bs (opart 0x36#8 B k)) ∧ Row W g7 31 (bs (opart 0x5c#8 B k)) ∧ Below w.heap.size w W
theorem KR.step {w wr : World} {g5 g6 g7 k : Nat} {B : List (BitVec 8)} (h : KR w g5 g6 g7 B k wr) (hB : B.length = 64) (hk : k < 64) (h5 : w.heap.size ≤ g5) (h6 : g6 = g5 + 1) (h7 : g7 = g5 + 1 + 1) {x : BitVec 8} (hx : B[k]?.getD 0#8 = x) :
    KR w g5 g6 g7 B (k + 1) ((wr.setCell ⟨g6, k, none⟩ (.int .u8 (bd (x ^^^ 0x36#8)))).setCell ⟨g7, k, none⟩ (.int .u8 (bd (x ^^^ 0x5c#8)))).drew := by
  obtain ⟨r5, r6, r7, hb⟩ := h
  have e : B.getD k 0 = x := by rw [List.getD_eq_getElem?_getD]; exact hx
  refine ⟨((r5.far (by simp; omega) _).far (by simp; omega) _).drew, ((?_ : Row _ _ _ _).far (by simp; omega) _).drew, Row.drew ?_, ((hb.setCell (by simp; omega) _).setCell (by simp; omega) _).drew⟩
  · have h1 := r6.put k (.int .u8 (bd (x ^^^ 0x36#8)))
    rw [set_bs, ← e, opart_set _ _ _ hB hk] at h1
    rw [← e]; exact h1
  · have h1 := (r7.far (p := ⟨g6, k, none⟩) (by simp; omega) (.int .u8 (bd (x ^^^ 0x36#8)))).put k (.int .u8 (bd (x ^^^ 0x5c#8)))
    rw [set_bs, ← e, opart_set _ _ _ hB hk] at h1
    rw [← e]; exact h1
/- what stands while the last line is reckoned -/
def SM (w : World) (g7 g9 : Nat) (O D : List (BitVec 8)) (W : World) : Prop := Row W g7 31 (bs O) ∧ Row W g9 27 (bs D) ∧ Tab W ∧ Below w.heap.size w W
theorem SM.call {w W W' : World} {g7 g9 : Nat} {O D : List (BitVec 8)} (h : SM w g7 g9 O D W) (hb : Below W.heap.size W W') : SM w g7 g9 O D W' :=
  ⟨h.1.call hb, h.2.1.call hb, h.2.2.1.below hb h.2.2.1.pos, h.2.2.2.trans (hb.mono h.2.2.2.size)⟩
theorem SM.alloc {w W : World} {g7 g9 : Nat} {O D : List (BitVec 8)} (h : SM w g7 g9 O D W) (o : Obj) : SM w g7 g9 O D (W.alloc o) := h.call ((Below.refl _ _).alloc (Nat.le_refl _) _)
theorem SM.drew {w W : World} {g7 g9 : Nat} {O D : List (BitVec 8)} (h : SM w g7 g9 O D W) : SM w g7 g9 O D W.drew := ⟨h.1, h.2.1, h.2.2.1, h.2.2.2.drew⟩
theorem SM.parts {w W : World} {g7 g9 : Nat} {O D : List (BitVec 8)} (h : SM w g7 g9 O D W) (hO : O.length = 64) (hD : D.length = 32) : Parts (W.alloc (.cells #[.slice (some ⟨g7, 0, none⟩) 64 64, .slice (some ⟨g9, 0, none⟩) 32 32] 22)) (.slice (some ⟨W.heap.size, 0, none⟩) 2 2) [O, D] := by
  have h1 := row_slice h.1 (c := 64) (by rw [hO]; exact Nat.le_refl _)
  have h2 := row_slice h.2.1 (c := 32) (by rw [hD]; exact Nat.le_refl _)
  rw [hO] at h1
  rw [hD] at h2
  exact parts2 h1 h2
theorem mac_one (key b : List (BitVec 8)) (kv v : Value) (w : World) (hT : Tab w) (hk : Slice w kv key) (hkl : key.length ≤ 1000000) (hv : Parts w v [b]) (hb : b.length ≤ 1000000) (T : List (BitVec 8)) (hTag : tagOf key b = T) :
    Calls Tryd.prog 8 #[kv, v] w fun e w' => e = .returned (.agg (bs T)) ∧ Below w.heap.size w w' := by
  subst hTag
  have h := mac_any key [b] kv v w hT hk (by omega) hv (fun n c e => by obtain ⟨A, c', h1, h2⟩ := hv; subst e; injection h1 with h1 _ _; obtain ⟨_, _, h3, _⟩ := h2 (by simp); rw [← h1] at h3; cases h3) (by simp) (by simp; omega)
  rwa [show ([b] : List (List (BitVec 8))).flatten = b by simp] at h
theorem sum_two (p q : List (BitVec 8)) (v : Value) (w : World) (hT : Tab w) (hv : Parts w v [p, q]) (h : p.length + q.length < 2147483648) (D : List (BitVec 8)) (hD : sha (p ++ q) = D) :
    Calls Tryd.prog 14 #[v] w fun e w' => e = .returned (.agg (bs D)) ∧ Below w.heap.size w w' := by
  subst hD
  have h := sum_any [p, q] v w hT hv (by simp) (by simp; omega)
  rwa [show ([p, q] : List (List (BitVec 8))).flatten = p ++ q by simp] at h
set_option maxHeartbeats 1600000 in
theorem makes_any (Ak Ab : Option Addr) (ck cb : Nat) (key b : List (BitVec 8)) (w : World) (hT : Tab w) (hk : Slice w (.slice Ak key.length ck) key) (hb : Slice w (.slice Ab b.length cb) b) (hkm : key.length ≤ maxLen) (hbm : b.length ≤ maxLen) :
    Calls Tryd.prog 5 #[.slice Ak key.length ck, .slice Ab b.length cb] w fun e w' => e = .returned (.bool true) ∧ Below w.heap.size w w' := by
  unfold maxLen at hkm hbm
  have HT := Lib.hid hT
  have HK := Lib.hid hk
  have HV := Lib.hid hb
  clear hT hk hb
  by_cases hbig : 200 < key.length ∨ 500 < b.length
  · have hd : (decide ((200 : Int) < (key.length : Int)) || decide ((500 : Int) < (b.length : Int))) = true := by simp; omega
    go_enter Tryd.func5, Tryd.ntmps5
    go_wp2_with fail
    all_goals
      refine (mwakes_any w HT.out).mono ?_
      rintro e w1 ⟨rfl, hb⟩
      go_wp2_with fail
      go_ret
      exact ⟨rfl, hb⟩
  · have hk200 : decide ((200 : Int) < (key.length : Int)) = false := by simp; omega
    have hb500 : decide ((500 : Int) < (b.length : Int)) = false := by simp; omega
    have HB : Hid ((blockOf key).length = 64) := Lib.hid (length_blockOf key)
    have HD : Hid ((sha (turnBy 0x36#8 (blockOf key) ++ b)).length = 32) := Lib.hid (length_sha _)
    have HO : Hid (sha (turnBy 0x5c#8 (blockOf key) ++ sha (turnBy 0x36#8 (blockOf key) ++ b)) = tagOf key b) := Lib.hid rfl
    have HTL : Hid ((tagOf key b).length = 32) := Lib.hid (length_tagOf _ _)
    generalize htg : tagOf key b = TG at *
    have HTG := Lib.hid htg
    clear htg
    go_enter Tryd.func5, Tryd.ntmps5
    go_wp2_with fail
    refine (block_any key _ w HT.out HK.out (by omega)).mono ?_
    rintro e w1 ⟨rfl, hb1⟩
    generalize hBk : blockOf key = B at *
    clear hBk
    go_wp2_with (first | (refine wpList_store_row rfl 31 _ _ rfl w1.heap.size (bs B) rfl rfl 31 _ (Row.fresh _ _ _) (by rw [size_bs, HB.out]; exact size_b) (by rw [size_bs, HB.out]; rfl) (one_bs _) ?_; rw [World.setRow_alloc_new]))
    go_loopw [8] (fun i wr => ∃ k : Nat, k ≤ 64 ∧ i = .int .i64 k ∧ KR w w1.heap.size (w1.heap.size + 1) (w1.heap.size + 1 + 1) B k wr) (fun i _ => 64 - (intOf i).toNat)
    case atStart =>
      refine ⟨0, by omega, rfl, ?_⟩
      unfold KR
      rw [opart_zero, opart_zero]
      exact ⟨row3a w1 _ _ _ _, row3b w1 31 (bs (zer 64)) _ _, row3c w1 31 (bs (zer 64)) _ _, hb1.trans ((below3 w1 _ _ _).mono hb1.size)⟩
    case round =>
      have h01 := hb1.size
      clear hb1
      obtain ⟨k, hk, rfl, r5, r6, r7, hbr⟩ := hrel
      by_cases hlt : k < 64
      · have c5 := r5.get (get_bs B k (by rw [HB.out]; exact hlt))
        have c6 := r6.get (get_bs (opart 0x36#8 B k) k (by rw [length_opart _ _ _ HB.out hk]; exact hlt))
        have c7 := r7.get (get_bs (opart 0x5c#8 B k) k (by rw [length_opart _ _ _ HB.out hk]; exact hlt))
        have f6 := r6.free k
        have f7 := r7.free k
        go_wp2
        go_region
        go_wp2
        go_roundw
        case rel =>
          refine ⟨k + 1, by omega, by go_num, ?_⟩
          exact KR.step ⟨r5, r6, r7, hbr⟩ HB.out hlt h01 rfl rfl rfl
        case measure => simp [intOf]; omega
      · obtain rfl : k = 64 := by omega
        rw [opart_all _ _ HB.out] at r6 r7
        have HOL : Hid ((turnBy 0x5c#8 B).length = 64) := Lib.hid (by rw [length_turnBy]; exact HB.out)
        have HIL : Hid ((turnBy 0x36#8 B).length = 64) := Lib.hid (by rw [length_turnBy]; exact HB.out)
        generalize turnBy 0x5c#8 B = O at *
        generalize turnBy 0x36#8 B = I at *
        clear hlt hk r5
        go_wp2_with fail
        have s6 := row_slice r6 (c := 64) (by rw [HIL.out]; exact Nat.le_refl _)
        rw [HIL.out] at s6
        have hp := parts2 s6 (HV.out.below hbr (Nat.le_refl _))
        have hbx := hbr.alloc hbr.size (.cells #[.slice (some ⟨w1.heap.size + 1, 0, none⟩) 64 64, .slice Ab b.length cb] 22)
        refine (sum_two I b _ _ (HT.out.below hbx HT.out.pos) hp (by rw [HIL.out]; omega) _ rfl).mono ?_
        rintro e w3 ⟨rfl, hb3⟩
        generalize sha (I ++ b) = D at *
        have r73 := (r7.alloc _).call hb3
        have hb03 : Below w.heap.size w w3 := hbx.trans (hb3.mono hbx.size)
        clear r6 r7 hbr s6 hp hbx hb3
        go_wp2_with (first | (refine wpList_store_row rfl 27 _ _ rfl w3.heap.size (bs D) rfl rfl 27 _ (Row.fresh _ _ _) (by rw [size_bs, HD.out]; exact size_d) (by rw [size_bs, HD.out]; rfl) (one_bs _) ?_; rw [World.setRow_alloc_new]))
        have hbx := hb03.alloc hb03.size (.cells (bs D) 27)
        have M0 : SM w (w1.heap.size + 1 + 1) w3.heap.size O D (w3.alloc (.cells (bs D) 27)) := ⟨r73.alloc _, Row.fresh _ _ _, HT.out.below hbx HT.out.pos, hbx⟩
        have S_w5 := M0.drew
        have q1 := eql_dig TG HTL.out
        clear M0 hbx hb03 r73
        generalize w3.alloc (.cells (bs D) 27) = w4 at *
        refine wp_region_held (S := SM w (w1.heap.size + 1 + 1) w3.heap.size O D) (by kernel_rfl) ?_
        change wpAnyH _ _ _ _ _ _ _ _ w4.drew
        generalize w4.drew = w5 at *
        refine wpAnyH_take (i := 0) (oi := { dst := some 41, op := _, type := _, pos := _, after := _, guard := none }) (v := .slice Ak key.length ck) rfl (by kernel_rfl) (by kernel_rfl) (by kernel_rfl) (fun _ _ _ h => h) (Or.inl ⟨by rfl, fun _ _ => by go_simp⟩) S_w5 ?_
        simp only [Act.put, List.setIfInBounds_toArray, List.set_cons_succ, List.set_cons_zero]
        refine wpAnyH_take (i := 1) (oi := { dst := some 42, op := _, type := _, pos := _, after := _, guard := none }) (v := .slice Ab b.length cb) rfl (by kernel_rfl) (by kernel_rfl) (by kernel_rfl) (fun _ _ _ h => h) (Or.inl ⟨by rfl, fun _ _ => by go_simp⟩) S_w5 ?_
        simp only [Act.put, List.setIfInBounds_toArray, List.set_cons_succ, List.set_cons_zero]
        refine wpAnyH_take (i := 4) (oi := { dst := some 45, op := _, type := _, pos := _, after := _, guard := none }) (v := .slice (some ⟨w1.heap.size + 1 + 1, 0, none⟩) 64 64) rfl (by kernel_rfl) (by kernel_rfl) (by kernel_rfl) (fun _ _ _ h => h) (Or.inl ⟨by rfl, fun _ _ => by go_simp⟩) S_w5 ?_
        simp only [Act.put, List.setIfInBounds_toArray, List.set_cons_succ, List.set_cons_zero]
        refine wpAnyH_take (i := 5) (oi := { dst := some 46, op := _, type := _, pos := _, after := _, guard := none }) (v := .slice (some ⟨w3.heap.size, 0, none⟩) 32 32) rfl (by kernel_rfl) (by kernel_rfl) (by kernel_rfl) (fun _ _ _ h => h) (Or.inl ⟨by rfl, fun _ _ => by go_simp⟩) S_w5 ?_
        simp only [Act.put, List.setIfInBounds_toArray, List.set_cons_succ, List.set_cons_zero]
        refine anyH_two (i := 2) (j := 6) (oi := { dst := some 43, op := _, type := _, pos := _, after := _, guard := none }) (oj := { dst := some 47, op := _, type := _, pos := _, after := _, guard := none }) (by kernel_rfl) rfl rfl (fun K hK => ?_) (fun K hK => ?_)
        · go_simp
          have hP_wA := parts1 (HV.out.below S_w5.2.2.2 (Nat.le_refl _))
          have S_wA := S_w5.alloc (.cells #[.slice Ab b.length cb] 22)
          generalize w5.heap.size = gwA at *
          generalize w5.alloc (.cells #[.slice Ab b.length cb] 22) = wA at *
          refine hK _ _ S_wA ?_
          clear hK K
          refine anyH_two (i := 3) (j := 6) (oi := { dst := some 44, op := _, type := _, pos := _, after := _, guard := none }) (oj := { dst := some 47, op := _, type := _, pos := _, after := _, guard := none }) (by kernel_rfl) rfl rfl (fun K hK => ?_) (fun K hK => ?_)
          · go_simp
            refine (mac_one key b _ _ wA S_wA.2.2.1 (HK.out.below S_wA.2.2.2 (Nat.le_refl _)) (by omega) hP_wA (by omega) TG HTG.out).mono ?_
            rintro e wB ⟨rfl, hb_wB⟩
            have S_wB := S_wA.call hb_wB
            refine hK _ _ S_wB ?_
            clear hK K
            refine anyH_one (i := 6) (o := { dst := some 47, op := _, type := _, pos := _, after := _, guard := none }) (by kernel_rfl) rfl (fun K hK => ?_)
            go_simp
            have hQ_wC := S_wB.parts HOL.out HD.out
            have S_wC := S_wB.alloc (.cells #[.slice (some ⟨w1.heap.size + 1 + 1, 0, none⟩) 64 64, .slice (some ⟨w3.heap.size, 0, none⟩) 32 32] 22)
            generalize wB.heap.size = gwC at *
            generalize wB.alloc (.cells #[.slice (some ⟨w1.heap.size + 1 + 1, 0, none⟩) 64 64, .slice (some ⟨w3.heap.size, 0, none⟩) 32 32] 22) = wC at *
            refine hK _ _ S_wC ?_
            clear hK K
            refine anyH_one (i := 7) (o := { dst := some 48, op := _, type := _, pos := _, after := _, guard := none }) (by kernel_rfl) rfl (fun K hK => ?_)
            go_simp
            refine (sum_two O D _ wC S_wC.2.2.1 hQ_wC (by rw [HOL.out, HD.out]; omega) TG HO.out).mono ?_
            rintro e wY ⟨rfl, hb_wY⟩
            have S_wY := S_wC.call hb_wY
            refine hK _ _ S_wY ?_
            clear hK K
            refine anyH_one (i := 8) (o := { dst := some 49, op := _, type := _, pos := _, after := _, guard := none }) (by kernel_rfl) rfl (fun K hK => ?_)
            go_simp
            refine hK _ _ S_wY ?_
            clear hK K
            refine anyH_one (i := 9) (o := { dst := some 50, op := _, type := _, pos := _, after := _, guard := none }) (by kernel_rfl) rfl (fun K hK => ?_)
            go_simp
            refine hK _ _ S_wY ?_
            clear hK K
            refine anyH_one (i := 10) (o := { dst := some 51, op := _, type := _, pos := _, after := _, guard := some (9, true) }) (by kernel_rfl) rfl (fun K hK => ?_)
            go_simp
            refine (mwakes_any wY S_wY.2.2.1).mono ?_
            rintro e wZ ⟨rfl, hb_wZ⟩
            have S_wZ := S_wY.call hb_wZ
            refine hK _ _ S_wZ ?_
            clear hK K
            refine anyH_one (i := 11) (o := { dst := some 52, op := _, type := _, pos := _, after := _, guard := none }) (by kernel_rfl) rfl (fun K hK => ?_)
            go_simp
            refine hK _ _ S_wZ ?_
            clear hK K
            refine anyH_one (i := 12) (o := { dst := some 4, op := _, type := _, pos := _, after := _, guard := none }) (by kernel_rfl) rfl (fun K hK => ?_)
            go_simp
            refine hK _ _ S_wZ ?_
            clear hK K
            refine wpAnyH_done (by kernel_rfl) ?_ _
            go_wp2_with fail
            go_ret
            exact ⟨rfl, S_wZ.2.2.2⟩
          · go_simp
            have hQ_wB := S_wA.parts HOL.out HD.out
            have S_wB := S_wA.alloc (.cells #[.slice (some ⟨w1.heap.size + 1 + 1, 0, none⟩) 64 64, .slice (some ⟨w3.heap.size, 0, none⟩) 32 32] 22)
            have hR_wB := hP_wA.below ((Below.refl wA.heap.size wA).alloc (Nat.le_refl _) (.cells #[.slice (some ⟨w1.heap.size + 1 + 1, 0, none⟩) 64 64, .slice (some ⟨w3.heap.size, 0, none⟩) 32 32] 22)) (Nat.le_refl _)
            generalize wA.heap.size = gwB at *
            generalize wA.alloc (.cells #[.slice (some ⟨w1.heap.size + 1 + 1, 0, none⟩) 64 64, .slice (some ⟨w3.heap.size, 0, none⟩) 32 32] 22) = wB at *
            refine hK _ _ S_wB ?_
            clear hK K
            refine anyH_one (i := 3) (o := { dst := some 44, op := _, type := _, pos := _, after := _, guard := none }) (by kernel_rfl) rfl (fun K hK => ?_)
            go_simp
            refine (mac_one key b _ _ wB S_wB.2.2.1 (HK.out.below S_wB.2.2.2 (Nat.le_refl _)) (by omega) hR_wB (by omega) TG HTG.out).mono ?_
            rintro e wC ⟨rfl, hb_wC⟩
            have S_wC := S_wB.call hb_wC
            refine hK _ _ S_wC ?_
            clear hK K
            refine anyH_one (i := 7) (o := { dst := some 48, op := _, type := _, pos := _, after := _, guard := none }) (by kernel_rfl) rfl (fun K hK => ?_)
            go_simp
            refine (sum_two O D _ wC S_wC.2.2.1 (hQ_wB.below hb_wC (Nat.le_refl _)) (by rw [HOL.out, HD.out]; omega) TG HO.out).mono ?_
            rintro e wY ⟨rfl, hb_wY⟩
            have S_wY := S_wC.call hb_wY
            refine hK _ _ S_wY ?_
            clear hK K
            refine anyH_one (i := 8) (o := { dst := some 49, op := _, type := _, pos := _, after := _, guard := none }) (by kernel_rfl) rfl (fun K hK => ?_)
            go_simp
            refine hK _ _ S_wY ?_
            clear hK K
            refine anyH_one (i := 9) (o := { dst := some 50, op := _, type := _, pos := _, after := _, guard := none }) (by kernel_rfl) rfl (fun K hK => ?_)
            go_simp
            refine hK _ _ S_wY ?_
            clear hK K
            refine anyH_one (i := 10) (o := { dst := some 51, op := _, type := _, pos := _, after := _, guard := some (9, true) }) (by kernel_rfl) rfl (fun K hK => ?_)
            go_simp
            refine (mwakes_any wY S_wY.2.2.1).mono ?_
            rintro e wZ ⟨rfl, hb_wZ⟩
            have S_wZ := S_wY.call hb_wZ
            refine hK _ _ S_wZ ?_
            clear hK K
            refine anyH_one (i := 11) (o := { dst := some 52, op := _, type := _, pos := _, after := _, guard := none }) (by kernel_rfl) rfl (fun K hK => ?_)
            go_simp
            refine hK _ _ S_wZ ?_
            clear hK K
            refine anyH_one (i := 12) (o := { dst := some 4, op := _, type := _, pos := _, after := _, guard := none }) (by kernel_rfl) rfl (fun K hK => ?_)
            go_simp
            refine hK _ _ S_wZ ?_
            clear hK K
            refine wpAnyH_done (by kernel_rfl) ?_ _
            go_wp2_with fail
            go_ret
            exact ⟨rfl, S_wZ.2.2.2⟩
        · go_simp
          have hQ_wA := S_w5.parts HOL.out HD.out
          have S_wA := S_w5.alloc (.cells #[.slice (some ⟨w1.heap.size + 1 + 1, 0, none⟩) 64 64, .slice (some ⟨w3.heap.size, 0, none⟩) 32 32] 22)
          generalize w5.heap.size = gwA at *
          generalize w5.alloc (.cells #[.slice (some ⟨w1.heap.size + 1 + 1, 0, none⟩) 64 64, .slice (some ⟨w3.heap.size, 0, none⟩) 32 32] 22) = wA at *
          refine hK _ _ S_wA ?_
          clear hK K
          refine anyH_one (i := 2) (o := { dst := some 43, op := _, type := _, pos := _, after := _, guard := none }) (by kernel_rfl) rfl (fun K hK => ?_)
          go_simp
          have hP_wB := parts1 (HV.out.below S_wA.2.2.2 (Nat.le_refl _))
          have S_wB := S_wA.alloc (.cells #[.slice Ab b.length cb] 22)
          have hR_wB := hQ_wA.below ((Below.refl wA.heap.size wA).alloc (Nat.le_refl _) (.cells #[.slice Ab b.length cb] 22)) (Nat.le_refl _)
          generalize wA.heap.size = gwB at *
          generalize wA.alloc (.cells #[.slice Ab b.length cb] 22) = wB at *
          refine hK _ _ S_wB ?_
          clear hK K
          refine anyH_one (i := 3) (o := { dst := some 44, op := _, type := _, pos := _, after := _, guard := none }) (by kernel_rfl) rfl (fun K hK => ?_)
          go_simp
          refine (mac_one key b _ _ wB S_wB.2.2.1 (HK.out.below S_wB.2.2.2 (Nat.le_refl _)) (by omega) hP_wB (by omega) TG HTG.out).mono ?_
          rintro e wC ⟨rfl, hb_wC⟩
          have S_wC := S_wB.call hb_wC
          refine hK _ _ S_wC ?_
          clear hK K
          refine anyH_one (i := 7) (o := { dst := some 48, op := _, type := _, pos := _, after := _, guard := none }) (by kernel_rfl) rfl (fun K hK => ?_)
          go_simp
          refine (sum_two O D _ wC S_wC.2.2.1 (hR_wB.below hb_wC (Nat.le_refl _)) (by rw [HOL.out, HD.out]; omega) TG HO.out).mono ?_
          rintro e wY ⟨rfl, hb_wY⟩
          have S_wY := S_wC.call hb_wY
          refine hK _ _ S_wY ?_
          clear hK K
          refine anyH_one (i := 8) (o := { dst := some 49, op := _, type := _, pos := _, after := _, guard := none }) (by kernel_rfl) rfl (fun K hK => ?_)
          go_simp
          refine hK _ _ S_wY ?_
          clear hK K
          refine anyH_one (i := 9) (o := { dst := some 50, op := _, type := _, pos := _, after := _, guard := none }) (by kernel_rfl) rfl (fun K hK => ?_)
          go_simp
          refine hK _ _ S_wY ?_
          clear hK K
          refine anyH_one (i := 10) (o := { dst := some 51, op := _, type := _, pos := _, after := _, guard := some (9, true) }) (by kernel_rfl) rfl (fun K hK => ?_)
          go_simp
          refine (mwakes_any wY S_wY.2.2.1).mono ?_
          rintro e wZ ⟨rfl, hb_wZ⟩
          have S_wZ := S_wY.call hb_wZ
          refine hK _ _ S_wZ ?_
          clear hK K
          refine anyH_one (i := 11) (o := { dst := some 52, op := _, type := _, pos := _, after := _, guard := none }) (by kernel_rfl) rfl (fun K hK => ?_)
          go_simp
          refine hK _ _ S_wZ ?_
          clear hK K
          refine anyH_one (i := 12) (o := { dst := some 4, op := _, type := _, pos := _, after := _, guard := none }) (by kernel_rfl) rfl (fun K hK => ?_)
          go_simp
          refine hK _ _ S_wZ ?_
          clear hK K
          refine wpAnyH_done (by kernel_rfl) ?_ _
          go_wp2_with fail
          go_ret
          exact ⟨rfl, S_wZ.2.2.2⟩
theorem makes_walk (Ak : Option Addr) (ck : Nat) (key : List (BitVec 8)) (Ab : Option Addr) (cb : Nat) (b : List (BitVec 8)) (w : World) (hT : Tab w) (hk : Slice w (.slice Ak key.length ck) key) (_ : Ak = none → ck = 0) (hkm : key.length ≤ maxLen) (hb : Slice w (.slice Ab b.length cb) b) (_ : Ab = none → cb = 0) (hbm : b.length ≤ maxLen) :
    Calls Tryd.prog 5 #[.slice Ak key.length ck, .slice Ab b.length cb] w fun e w' => e = .returned (.bool true) ∧ Below w.heap.size w w' := makes_any Ak Ab ck cb key b w hT hk hb hkm hbm
end Go.Proofs.YtieoakdlehpgiaaDoor
