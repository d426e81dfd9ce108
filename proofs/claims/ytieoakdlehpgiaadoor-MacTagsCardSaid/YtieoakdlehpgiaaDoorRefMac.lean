/- The document's tag of all parts by a key. -/
import Derived.Test.YtieoakdlehpgiaaDoorRefBlock
import Derived.Test.YtieoakdlehpgiaaDoorMakes
import Derived.Deep.DeepCutAuto
namespace Go.Proofs.YtieoakdlehpgiaaDoor
open Go Go.RowKit
attribute [local go_sem] xor_bd xor36 xor5c
/- what stands in the loop over a block's bytes -/
def RM (w : World) (g5 gi go : Nat) (B : List (BitVec 8)) (k : Nat) (W : World) : Prop := gi ≠ go ∧ g5 < gi ∧ g5 < go ∧ Row W w.heap.size 27 (bs (zer 32)) ∧ Row W g5 31 (bs B) ∧ Row W gi 5 (bs (opart 0x36#8 B k)) ∧ Row W go 5 (bs (opart 0x5c#8 B k)) ∧ Below w.heap.size w W
theorem RM.step {w wr : World} {g5 gi go k : Nat} {B : List (BitVec 8)} (h : RM w g5 gi go B k wr) (hB : B.length = 64) (hk : k < 64) (h5 : w.heap.size < g5) {x : BitVec 8} (hx : B[k]?.getD 0#8 = x) :
    RM w g5 gi go B (k + 1) ((wr.setCell ⟨gi, k, none⟩ (.int .u8 (bd (x ^^^ 0x36#8)))).setCell ⟨go, k, none⟩ (.int .u8 (bd (x ^^^ 0x5c#8)))).drew := by
  obtain ⟨ha, hb1, hb2, r4, r5, r6, r7, hb⟩ := h
  have e : B.getD k 0 = x := by rw [List.getD_eq_getElem?_getD]; exact hx
  refine ⟨ha, hb1, hb2, ((r4.far (by simp; omega) _).far (by simp; omega) _).drew, ((r5.far (by simp; omega) _).far (by simp; omega) _).drew, ((?_ : Row _ _ _ _).far (by simpa using ha) _).drew, Row.drew ?_, ((hb.setCell (by simp; omega) _).setCell (by simp; omega) _).drew⟩
  · have h1 := r6.put k (.int .u8 (bd (x ^^^ 0x36#8)))
    rw [set_bs, ← e, opart_set _ _ _ hB hk] at h1
    rw [← e]; exact h1
  · have h1 := (r7.far (p := ⟨gi, k, none⟩) (by simpa using Ne.symm ha) (.int .u8 (bd (x ^^^ 0x36#8)))).put k (.int .u8 (bd (x ^^^ 0x5c#8)))
    rw [set_bs, ← e, opart_set _ _ _ hB hk] at h1
    rw [← e]; exact h1
theorem RM.start {w w1 : World} {B : List (BitVec 8)} (hb : Below w.heap.size w w1) (r4 : Row w1 w.heap.size 27 (bs (zer 32))) :
    RM w w1.heap.size (w1.heap.size + 1) (w1.heap.size + 1 + 1) B 0 (((w1.alloc (.cells (bs B) 31)).alloc (.cells (bs (zer 64)) 5)).alloc (.cells (bs (zer 64)) 5)).drew ∧ RM w w1.heap.size (w1.heap.size + 1 + 1) (w1.heap.size + 1) B 0 (((w1.alloc (.cells (bs B) 31)).alloc (.cells (bs (zer 64)) 5)).alloc (.cells (bs (zer 64)) 5)).drew := by
  have a := ((r4.alloc (.cells (bs B) 31)).alloc (.cells (bs (zer 64)) 5)).alloc (.cells (bs (zer 64)) 5)
  have b := row3a w1 31 (bs B) (.cells (bs (zer 64)) 5) (.cells (bs (zer 64)) 5)
  have c := row3b w1 5 (bs (zer 64)) (.cells (bs B) 31) (.cells (bs (zer 64)) 5)
  have d := row3c w1 5 (bs (zer 64)) (.cells (bs B) 31) (.cells (bs (zer 64)) 5)
  have e := hb.trans ((below3 w1 (.cells (bs B) 31) (.cells (bs (zer 64)) 5) (.cells (bs (zer 64)) 5)).mono hb.size)
  unfold RM
  rw [opart_zero, opart_zero]
  exact ⟨⟨by omega, by omega, by omega, a, b, c, d, e.drew⟩, ⟨by omega, by omega, by omega, a, b, d, c, e.drew⟩⟩
/- the slices of a slice of slices that was handed in, as a list -/
theorem Hand.list {w : World} {v : Value} {ps : List (List (BitVec 8))} (h : Hand w v ps) : ∃ A c, ∃ us : List Value, v = .slice A ps.length c ∧ us.length = ps.length ∧ (∀ ad, A = some ad → ∀ (j : Nat) (u : Value), us[j]? = some u → w.cell? (ad.add j) = some u) ∧ (A = none → ps = []) ∧
    (∀ u ∈ us, Value.oneCell' u = true) ∧ ∀ (k : Nat) (q : List (BitVec 8)), ps[k]? = some q → ∃ u, us[k]? = some u ∧ Item w u q := by
  obtain ⟨A, c, rfl, h3⟩ := h
  by_cases hne : ps = []
  · subst hne
    exact ⟨A, c, [], rfl, rfl, fun _ _ j u hu => (by simp at hu), fun _ => rfl, fun u hu => (by cases hu), fun k q hq => (by simp at hq)⟩
  · obtain ⟨b, o, rfl, _, hc⟩ := h3 hne
    have hk : ∀ k, k < ps.length → ∃ u, w.cell? ⟨b, o + k, none⟩ = some u ∧ Item w u (ps.getD k []) := fun k hk => hc k _ (by rw [List.getD_eq_getElem?_getD, List.getElem?_eq_getElem hk]; rfl)
    refine ⟨some ⟨b, o, none⟩, c, (List.range ps.length).map fun k => (w.cell? ⟨b, o + k, none⟩).getD undef, rfl, by simp, ?_, fun h => (by cases h), ?_, ?_⟩
    · rintro ad e j u hu
      injection e with e
      subst e
      simp only [List.getElem?_map, Option.map_eq_some_iff] at hu
      obtain ⟨k, hk1, rfl⟩ := hu
      have hlt : j < ps.length := by have := (List.getElem?_eq_some_iff.1 hk1).1; simpa using this
      obtain rfl : j = k := by simpa [hlt] using hk1
      obtain ⟨u, hu, _⟩ := hk _ hlt
      rw [Addr.add_mid, hu]; rfl
    · intro u hu
      simp only [List.mem_map, List.mem_range] at hu
      obtain ⟨k, hlt, rfl⟩ := hu
      obtain ⟨u, hu, A', c', rfl, _⟩ := hk k hlt
      rw [hu]; rfl
    · intro k q hq
      have hlt := (List.getElem?_eq_some_iff.1 hq).1
      obtain ⟨u, hu, hs⟩ := hk k hlt
      rw [List.getD_eq_getElem?_getD, hq] at hs
      exact ⟨u, by simp [hlt, hu], hs⟩
theorem hand_own {w : World} {base g N cap : Nat} {bv : Value} {us : List Value} {l : List (BitVec 8)} {ps : List (List (BitVec 8))} (h : w.ownsRow base 22 1 (.slice (some ⟨g, 0, none⟩) N cap) N ([bv] ++ us)) (hN : N = ps.length + 1)
    (hb : Item w bv l) (hu : ∀ (k : Nat) (q : List (BitVec 8)), ps[k]? = some q → ∃ u, us[k]? = some u ∧ Item w u q) : Hand w (.slice (some ⟨g, 0, none⟩) N cap) (l :: ps) := by
  subst hN
  refine ⟨_, cap, rfl, fun _ => ⟨g, 0, rfl, (h.lt g rfl).2, fun k q hq => ?_⟩⟩
  have hk := (List.getElem?_eq_some_iff.1 hq).1
  rw [Nat.zero_add, h.cellAt k (by simp at hk; omega)]
  cases k with
  | zero => obtain rfl : l = q := by simpa using hq
            exact ⟨bv, rfl, hb⟩
  | succ k => obtain ⟨u, hu1, hu2⟩ := hu k q (by simpa using hq)
              exact ⟨u, by simpa using hu1, hu2⟩
theorem wpList_append_parts {w : World} {ops : Array Oper} {rest : List Oper} {o : Oper} {a : Act} {Q : Exit → Act → World → Prop} (hgd : o.guard = none) (s x : Operand)
    (ho : o.op = .call { callee := .builtin .append, args := #[s, x], argTypes := #[23, 23] }) (base : Nat)
    (v : Value) (n : Nat) (xs : List Value) (hs : a.eval s = v) (hown : w.ownsRow base 22 1 v n xs)
    (A : Option Addr) (m c : Nat) (us : List Value) (hx : a.eval x = .slice A m c) (hul : us.length = m) (huc : ∀ ad, A = some ad → ∀ (j : Nat) (u : Value), us[j]? = some u → w.cell? (ad.add j) = some u) (hun : A = none → m = 0 ∧ c = 0) (huo : ∀ u ∈ us, Value.oneCell' u = true)
    (hnm : n + m ≤ 1000000000) (hbase : base ≤ w.heap.size)
    (h : ∀ v' w', w'.ownsRow base 22 1 v' (n + m) (xs ++ us) → Below base w w' → wpList Tryd.prog ops Q rest (a.put o.dst v') w') : wpList Tryd.prog ops Q (o :: rest) a w := by
  obtain ⟨i1, hi1, hz10, hz11, hz12⟩ := info_parts info_sl
  have hblk : ∀ g, v.ownBlock = some g → base ≤ g := fun g hg => (hown.lt g hg).1
  cases A with
  | none =>
    obtain ⟨rfl, rfl⟩ := hun rfl
    obtain rfl : us = [] := List.length_eq_zero_iff.1 hul
    refine wpList_append_own_none hgd s x 23 ho base 22 i1 1 Tryd.underlying23 hi1 v n xs hs hown hx ?_
    exact h v w (by simpa using hown) (Below.refl _ _)
  | some ad =>
    refine wpList_append_own w hgd s x 23 ho base 22 i1 (.slice none 0 0) 1 24 Tryd.underlying23 hi1 hz10 hz11 hz12 rfl (by omega) v n xs hs hown ad m c us hx (by omega) (huc ad rfl) huo (by unfold maxLen; omega) (by omega) hbase ?_
    intro v' w' h1 h2 _
    exact h v' w' h1 (below_of_grown h2 hblk hbase)
theorem item_row {w : World} {g c : Nat} {q : List (BitVec 8)} {t : TypeId} (hg : Row w g t (bs q)) (hc : q.length ≤ c) (hm : q.length ≤ maxLen) : Item w (.slice (some ⟨g, 0, none⟩) q.length c) q :=
  ⟨_, c, rfl, row_slice hg hc, fun h => (by cases h), hm⟩
theorem hand2 {w : World} {a b : Value} {p q : List (BitVec 8)} (ha : Item w a p) (hb : Item w b q) : Hand (w.alloc (.cells #[a, b] 22)) (.slice (some ⟨w.heap.size, 0, none⟩) 2 2) [p, q] := by
  have t := Row.fresh w 22 #[a, b]
  have hx := (Below.refl w.heap.size w).alloc (Nat.le_refl _) (.cells #[a, b] 22)
  refine ⟨_, 2, rfl, fun _ => ⟨w.heap.size, 0, rfl, t.lt, fun k s hs => ?_⟩⟩
  match k, hs with
  | 0, hs => obtain rfl : p = s := by simpa using hs
             exact ⟨a, t.get rfl, ha.below hx (Nat.le_refl _)⟩
  | 1, hs => obtain rfl : q = s := by simpa using hs
             exact ⟨b, t.get rfl, hb.below hx (Nat.le_refl _)⟩
theorem refsum_two (p q : List (BitVec 8)) (v : Value) (w : World) (hv : Hand w v [p, q]) (h : p.length + q.length ≤ 100000) (D : List (BitVec 8)) (hD : sha (p ++ q) = D) :
    Calls Tryd.prog 17 #[v] w fun e w' => e = .returned (.agg (bs D)) ∧ Below w.heap.size w w' := by
  subst hD
  have h := refsum_any [p, q] v w hv (by simp) (by simp; omega)
  rwa [show ([p, q] : List (List (BitVec 8))).flatten = p ++ q by simp] at h
theorem own_lit1 (w : World) (u : Value) : (w.alloc (.cells #[u] 22)).ownsRow w.heap.size 22 1 (.slice (some ⟨w.heap.size, 0, none⟩) 1 1) 1 [u] :=
  World.ownsRow_lit w #[u] 1 (Nat.le_refl _) (by unfold maxLen; omega) rfl
theorem make64 (w : World) : (Instr.makeSlice 22 (.int .i64 64) (.int .i64 64)).run Tryd.prog w = .ok (.slice (some ⟨w.heap.size, 0, none⟩) 64 64) (w.alloc (.cells (bs (zer 64)) 5)) := by kernel_rfl
set_option maxHeartbeats 1600000 in
theorem refmac_any (key : List (BitVec 8)) (ps : List (List (BitVec 8))) (kv v : Value) (w : World) (hk : Item w kv key) (hkl : key.length ≤ 100000) (hv : Hand w v ps) (hnil : ∀ n c, v = .slice none n c → c = 0) (hn : ps.length ≤ 900) (hlen : ps.flatten.length ≤ 90000) :
    Calls Tryd.prog 10 #[kv, v] w fun e w' => e = .returned (.agg (bs (tagOf key ps.flatten))) ∧ Below w.heap.size w w' := by
  have HK := Lib.hid hk
  have HLEN := Lib.hid hlen
  obtain ⟨Ak, ck, rfl, _⟩ := hk
  obtain ⟨A, c, us, rfl, hul, huc, hun, huo, hus⟩ := hv.list
  have HUC := Lib.hid huc
  have HUS := Lib.hid hus
  have HUN : Hid (A = none → ps.length = 0 ∧ c = 0) := Lib.hid fun h => ⟨by rw [hun h]; rfl, hnil _ _ (by rw [h])⟩
  have HUO := Lib.hid huo
  clear huc hus hun huo hv
  have HB : Hid ((blockOf key).length = 64) := Lib.hid (length_blockOf key)
  have HI : Hid ((sha (turnBy 0x36#8 (blockOf key) ++ ps.flatten)).length = 32) := Lib.hid (length_sha _)
  have HO : Hid (sha (turnBy 0x5c#8 (blockOf key) ++ sha (turnBy 0x36#8 (blockOf key) ++ ps.flatten)) = tagOf key ps.flatten) := Lib.hid rfl
  have HTL : Hid ((tagOf key ps.flatten).length = 32) := Lib.hid (length_tagOf _ _)
  clear hnil hlen
  generalize tagOf key ps.flatten = TG at *
  go_enter Tryd.func10, Tryd.ntmps10
  go_wp2_with fail
  have hb0 : Below w.heap.size w (w.alloc (.cells (bs (zer 32)) 27)) := (Below.refl _ _).alloc (Nat.le_refl _) _
  refine (refblock_any key _ (w.alloc (.cells (bs (zer 32)) 27)) (HK.out.below hb0 (Nat.le_refl _)) hkl).mono ?_
  rintro e w1 ⟨rfl, hb1⟩
  have r4 := (Row.fresh w 27 (bs (zer 32))).call hb1
  have hb01 : Below w.heap.size w w1 := hb0.trans (hb1.mono (by simp))
  clear hb0 hb1
  generalize hBk : blockOf key = B at *
  clear hBk
  have h51 : w.heap.size < w1.heap.size := r4.lt
  have RS := Lib.hid (RM.start (B := B) hb01 r4)
  clear r4 hb01
  go_upto_region 2 with (first | (refine wpList_store_row rfl 31 _ _ rfl w1.heap.size (bs B) rfl rfl 31 _ (Row.fresh _ _ _) (by rw [size_bs, HB.out]; exact size_b) (by rw [size_bs, HB.out]; rfl) (one_bs _) ?_; rw [World.setRow_alloc_new]))
  go_frame
  go_cut [6, 7] (fun s6 s7 wx => ∃ gi go, s6 = .slice (some ⟨gi, 0, none⟩) 64 64 ∧ s7 = .slice (some ⟨go, 0, none⟩) 64 64 ∧ RM w w1.heap.size gi go B 0 wx)
  case first =>
    have hmk := make64
    go_region
    · go_wp2_with fail
      go_meet
      exact ⟨_, _, rfl, rfl, RS.out.1⟩
    · go_wp2_with fail
      go_meet
      exact ⟨_, _, rfl, rfl, RS.out.2⟩
  case rest =>
  obtain ⟨gi, go, rfl, rfl, hR0⟩ := hcut
  clear RS
  go_wp2_with fail
  go_loopw [8] (fun i wr => ∃ k : Nat, k ≤ 64 ∧ i = .int .i64 k ∧ RM w w1.heap.size gi go B k wr) (fun i _ => 64 - (intOf i).toNat)
  case atStart => exact ⟨0, by omega, rfl, hR0⟩
  case round =>
    clear hR0
    obtain ⟨k, hk, rfl, hR⟩ := hrel
    have HR := Lib.hid hR
    obtain ⟨ha, hx1, hx2, r4, r5, r6, r7, hbr⟩ := hR
    by_cases hlt : k < 64
    · have c5 := r5.get (get_bs B k (by rw [HB.out]; exact hlt))
      have c6 := r6.get (get_bs (opart 0x36#8 B k) k (by rw [length_opart _ _ _ HB.out hk]; exact hlt))
      have c7 := r7.get (get_bs (opart 0x5c#8 B k) k (by rw [length_opart _ _ _ HB.out hk]; exact hlt))
      have f6 := r6.free k
      have f7 := r7.free k
      clear r4 r5 r6 r7 hbr
      go_wp2
      go_region
      go_wp2
      go_roundw
      case rel =>
        refine ⟨k + 1, by omega, by go_num, ?_⟩
        exact RM.step HR.out HB.out hlt h51 rfl
      case measure => simp [intOf]; omega
    · obtain rfl : k = 64 := by omega
      clear HR hlt hk
      rw [opart_all _ _ HB.out] at r6 r7
      have HOL : Hid ((turnBy 0x5c#8 B).length = 64) := Lib.hid (by rw [length_turnBy]; exact HB.out)
      have HIL : Hid ((turnBy 0x36#8 B).length = 64) := Lib.hid (by rw [length_turnBy]; exact HB.out)
      generalize turnBy 0x5c#8 B = O at *
      generalize turnBy 0x36#8 B = I at *
      clear r5 ha
      have own1 := own_lit1 wr (.slice (some ⟨gi, 0, none⟩) 64 64)
      have hbx := hbr.alloc hbr.size (.cells #[.slice (some ⟨gi, 0, none⟩) 64 64] 22)
      have HCX : Hid (∀ ad, A = some ad → ∀ (j : Nat) (u : Value), us[j]? = some u → (wr.alloc (.cells #[.slice (some ⟨gi, 0, none⟩) 64 64] 22)).cell? (ad.add j) = some u) := Lib.hid fun ad e j u hu => (hbx.cell (World.block_lt_of_cell? w _ (HUC.out ad e j u hu))).trans (HUC.out ad e j u hu)
      go_wp2_with (first | (at_builtin; refine wpList_append_parts rfl (.tmp 33) (.tmp 34) rfl wr.heap.size _ 1 [.slice (some ⟨gi, 0, none⟩) 64 64] rfl own1 A ps.length c us rfl hul HCX.out HUN.out HUO.out (by omega) (by simp) ?_; intro v2 w2 own2 hb2; obtain ⟨A2, c2, rfl⟩ := own_form own2; clear own1))
      have hq2 : Below wr.heap.size wr w2 := ((Below.refl wr.heap.size wr).alloc (Nat.le_refl _) _).trans hb2
      have r42 := r4.call hq2
      have r62 := r6.call hq2
      have r72 := r7.call hq2
      have hb02 := hbr.trans (hq2.mono hbr.size)
      have hi2 := item_row r62 (c := 64) (by rw [HIL.out]; exact Nat.le_refl _) (by rw [HIL.out]; unfold maxLen; omega)
      rw [HIL.out] at hi2
      obtain ⟨g2, rfl⟩ : ∃ g2, A2 = some ⟨g2, 0, none⟩ := by
        rcases own2.2 with ⟨h, h0⟩ | ⟨g2, cap, cur, h, _⟩
        · exact absurd h0 (by omega)
        · injection h with h _ _; exact ⟨g2, h⟩
      have hH := hand_own own2 (ps := ps) (by omega) hi2 (fun k q hq => by
        obtain ⟨u, h1, h2⟩ := HUS.out k q hq
        exact ⟨u, h1, h2.below hb02 (Nat.le_refl _)⟩)
      clear r4 r6 r7 hbr hbx HCX hb2 hq2 r62 hi2 own2
      refine (refsum_any (I :: ps) _ w2 hH (by simp; omega) (by rw [List.flatten_cons, List.length_append, HIL.out]; have := HLEN.out; omega)).mono ?_
      rintro e w3 ⟨rfl, hb3⟩
      rw [List.flatten_cons]
      generalize sha (I ++ ps.flatten) = D at *
      have r43 := r42.call hb3
      have r73 := r72.call hb3
      have hb03 := hb02.trans (hb3.mono hb02.size)
      clear r42 r72 hb02 hb3 hH
      go_wp2_with (first | (refine wpList_store_row rfl 27 _ _ rfl w3.heap.size (bs D) rfl rfl 27 _ (Row.fresh _ _ _) (by rw [size_bs, HI.out]; exact size_d) (by rw [size_bs, HI.out]; rfl) (one_bs _) ?_; rw [World.setRow_alloc_new]))
      have i7 := item_row (r73.alloc (.cells (bs D) 27)) (c := 64) (by rw [HOL.out]; exact Nat.le_refl _) (by rw [HOL.out]; unfold maxLen; omega)
      have i9 := item_row (Row.fresh w3 27 (bs D)) (c := 32) (by rw [HI.out]; exact Nat.le_refl _) (by rw [HI.out]; unfold maxLen; omega)
      rw [HOL.out] at i7
      rw [HI.out] at i9
      have hH2 := hand2 i7 i9
      rw [show (w3.alloc (.cells (bs D) 27)).heap.size = w3.heap.size + 1 by simp] at hH2
      have r44 := (r43.alloc (.cells (bs D) 27)).alloc (.cells #[.slice (some ⟨go, 0, none⟩) 64 64, .slice (some ⟨w3.heap.size, 0, none⟩) 32 32] 22)
      have hb04 := (hb03.alloc hb03.size (.cells (bs D) 27)).alloc (Nat.le_trans hb03.size (by simp)) (.cells #[.slice (some ⟨go, 0, none⟩) 64 64, .slice (some ⟨w3.heap.size, 0, none⟩) 32 32] 22)
      clear i7 i9 r43 r73 hb03
      generalize (w3.alloc (.cells (bs D) 27)).alloc (.cells #[.slice (some ⟨go, 0, none⟩) 64 64, .slice (some ⟨w3.heap.size, 0, none⟩) 32 32] 22) = w4 at *
      refine (refsum_two O D _ w4 hH2 (by rw [HOL.out, HI.out]; omega) TG HO.out).mono ?_
      rintro e w5 ⟨rfl, hb5⟩
      have r45 := r44.call hb5
      have hb05 := hb04.trans (hb5.mono hb04.size)
      have HS : Hid ((Tryd.prog.info? 27).map (·.size) = some (bs TG).size) := Lib.hid (by rw [size_bs, HTL.out]; exact size_d)
      clear hH2 r44 hb04 hb5
      go_wp2_with (first | (refine wpList_store_row rfl 27 _ _ rfl w.heap.size (bs TG) rfl rfl 27 _ r45 HS.out (by rw [size_bs, size_bs, HTL.out]; rfl) (one_bs _) ?_))
      exact bodyPost_ret (v := .agg (bs TG)) (results_cell_row Tryd.results10 _ _ w.heap.size 27 (bs TG) (0, 0) _ rfl (r45.setRow _) Tryd.underlying27 rfl HS.out) rfl ⟨rfl, below_setRow hb05 (Nat.le_refl _) _⟩
end Go.Proofs.YtieoakdlehpgiaaDoor
