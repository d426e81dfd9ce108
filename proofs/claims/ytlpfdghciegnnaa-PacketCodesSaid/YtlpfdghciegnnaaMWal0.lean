/- Merged: WalGd PktPrg. -/
import Derived.Deep.Cut
import Derived.Test.YtlpfdghciegnnaaMGen0
import Derived.Test.YtlpfdghciegnnaaMLabel0
/- The program's wal: which puts may be. -/
set_option maxRecDepth 4000
namespace Go.Proofs.Ytlpfdghciegnnaa
open Go Go.RowKit
theorem st_cut {w0 w : World} {F : Nat → Prop} {R S : List Blk} (h : St w0 F (R ++ S) w) : St w0 F R w := by
  have at_ : ∀ (k : Nat) (r : Blk), R[k]? = some r → (R ++ S)[k]? = some r := fun k r hk => by
    rw [List.getElem?_append_left (List.getElem?_eq_some_iff.1 hk).1]; exact hk
  exact ⟨h.chg, fun k r hk => h.rows k r (at_ k r hk), fun j k r s hne hj hk => h.apart j k r s hne (at_ j r hj) (at_ k s hk), fun k r hk => h.own k r (at_ k r hk)⟩
/- which blocks the first k have -/
def took (L : List Int) (k : Nat) : Array Value := ((List.range 12).map fun (i : Nat) => Value.bool (decide ((i : Int) ∈ L.take k))).toArray
theorem size_took (L : List Int) (k : Nat) : (took L k).size = 12 := by simp [took]
theorem took_at (L : List Int) (k d : Nat) (hd : d < 12) : (took L k)[d]? = some (.bool (decide ((d : Int) ∈ L.take k))) := by simp [took, hd]
theorem took_set (L : List Int) (k d : Nat) (hk : k < L.length) (hd : L.getD k 0 = (d : Int)) : (took L k).setIfInBounds d (.bool true) = took L (k + 1) := by
  apply Array.ext'
  unfold took
  simp only [List.setIfInBounds_toArray]
  apply List.ext_getElem (by simp)
  intro i h1 h2
  have hg : L[k] = (d : Int) := by rw [← hd, List.getD_eq_getElem?_getD, List.getElem?_eq_getElem hk]; rfl
  rw [List.getElem_set, List.getElem_map, List.getElem_range, List.getElem_map, List.getElem_range, List.take_succ_eq_append_getElem hk, hg]
  by_cases e : d = i
  · subst e; simp
  · rw [if_neg e]
    have : ¬ (i : Int) = (d : Int) := by omega
    simp [this]
theorem ok_took (L : List Int) (k d : Nat) (hk : k < L.length) (hd : L.getD k 0 = (d : Int)) (h12 : d < 12) : okAt L k ↔ decide ((d : Int) ∈ L.take k) = false := by
  unfold okAt
  rw [hd, decide_eq_false_iff_not, List.mem_take_iff_getElem]
  constructor
  · rintro ⟨_, _, h⟩ ⟨i, hi, e⟩
    exact h i (by omega) (by rw [List.getD_eq_getElem?_getD, List.getElem?_eq_getElem (by omega)]; exact e)
  · intro h
    refine ⟨by omega, by omega, fun i hi e => h ⟨i, by omega, ?_⟩⟩
    rw [List.getD_eq_getElem?_getD, List.getElem?_eq_getElem (by omega)] at e; exact e
theorem put_at_mem {w : World} {A : Option Addr} {n c : Nat} {l : List (Int × List (BitVec 8))} (h : PutsAt w (.slice A n c) l) (_ : l.length = n) {k : Nat} {D : Int} {q : List (BitVec 8)} (hx : l[k]? = some (D, q)) :
    ∃ b o, A = some ⟨b, o, none⟩ ∧ b < w.heap.size ∧ w.rangeAt b (o + k * 33) (pcell (D, q)) ∧ q.length = 32 ∧ -9223372036854775808 ≤ D ∧ D < 9223372036854775808 := by
  obtain ⟨A', c', e1, _, hb, h4⟩ := h
  injection e1 with e1 _ _
  subst e1
  obtain ⟨b, o, e2, h5, h6⟩ := h4 (by intro e; rw [e] at hx; simp at hx)
  have := hb _ (List.mem_of_getElem? hx)
  exact ⟨b, o, e2, h5, h6 k _ hx, this.1, this.2.1, this.2.2⟩
theorem one_pc (x : Int × List (BitVec 8)) : (pcell x).toArray.all (·.oneCell') = true := by
  rw [Array.all_eq_true_iff_forall_mem]; intro v hv; exact one_pcell0 v (by simpa using hv)
theorem size_pc {D : Int} {q : List (BitVec 8)} (h : q.length = 32) : (pcell (D, q)).toArray.size = 33 := by rw [List.size_toArray]; exact len_pcell h
theorem info_put33 : (Try.prog.info? 48).map (·.size) = some 33 := by kernel_rfl
theorem size_zput : zput0.size = 33 := by rfl
set_option maxHeartbeats 800000 in
theorem walgood_any (l : List (Int × List (BitVec 8))) (v : Value) (w : World) (hv : PutsAt w v l) (hl : l.length ≤ maxLen) :
    Calls Try.prog 32 #[v] w fun e w' => e = .returned (.bool (goodB (l.map (·.1)))) ∧ Below w.heap.size w w' := by
  obtain ⟨A, c, rfl⟩ : ∃ A c, v = .slice A l.length c := by obtain ⟨A, c, h, _⟩ := hv; exact ⟨A, c, h⟩
  obtain ⟨n, hn⟩ : ∃ n, l.length = n := ⟨_, rfl⟩
  obtain ⟨L, hL⟩ : ∃ L, l.map (·.1) = L := ⟨_, rfl⟩
  have HLL := Lib.hid hL
  have HLn : Hid (L.length = n) := Lib.hid (by rw [← hL, List.length_map, hn])
  have HN := Lib.hid hn
  have HG : Hid (goodB L = (decide (∀ k < n, okAt L k) && (decide (1 ≤ n) && decide (n ≤ 5)))) := Lib.hid (by unfold goodB; rw [HLn.out])
  obtain ⟨G, hG⟩ : ∃ G, goodB L = G := ⟨_, rfl⟩
  rw [hG] at HG
  rw [hL, hG]
  rw [hn] at hv hl ⊢
  have HV := Lib.hid hv
  unfold maxLen at hl
  clear hL hG hn hv
  by_cases h1 : 1 ≤ n
  case neg =>
    have hG : G = false := by rw [HG.out, decide_eq_false h1, Bool.false_and, Bool.and_false]
    have hq : decide ((n : Int) < 1) = true := decide_eq_true (by omega)
    clear HG
    go_enter Try.func32, Try.ntmps32
    go_wp2_with fail
    go_ret
    first | exact ⟨rfl, Below.refl _ _⟩ | (rw [hG]; exact ⟨rfl, Below.refl _ _⟩)
  by_cases h5 : n ≤ 5
  case neg =>
    have hG : G = false := by rw [HG.out, decide_eq_false h5, Bool.and_false, Bool.and_false]
    have hq : decide ((n : Int) < 1) = false := decide_eq_false (by omega)
    have hq5 : decide ((5 : Int) < (n : Int)) = true := decide_eq_true (by omega)
    clear HG
    go_enter Try.func32, Try.ntmps32
    go_wp2_with fail
    go_ret
    first | exact ⟨rfl, Below.refl _ _⟩ | (rw [hG]; exact ⟨rfl, Below.refl _ _⟩)
  have HNO : Hid (∀ k, k < n → ¬ okAt L k → G = false) := Lib.hid fun k hk h => by rw [HG.out, decide_eq_false (fun h' => h (h' k hk))]; rfl
  have HYES : Hid ((∀ k < n, okAt L k) → G = true) := Lib.hid fun h => by rw [HG.out, decide_eq_true h, decide_eq_true h1, decide_eq_true h5]; rfl
  have hq : decide ((n : Int) < 1) = false := decide_eq_false (by omega)
  have hq5 : decide ((5 : Int) < (n : Int)) = false := decide_eq_false (by omega)
  clear HG
  have HS := St.nil w noF
  go_enter Try.func32, Try.ntmps32
  go_upto_region 5 with (first | ((with_reducible refine wpList_plain ?_ ?_); exact rfl; intro KK hKK; refine wp_st_alloc HS 76 (took L 0) rfl (.agg (took L 0)) (by kernel_rfl) (rfl) (fun g3 W1 HSx => hKK _ _ ?_); clear hKK KK HS; have HS : St w noF [⟨g3, 76, took L 0⟩] W1 := HSx; clear HSx))
  clear hq hq5
  go_loopw [16] (fun i wr => ∃ k : Nat, k ≤ n ∧ i = .int .i64 k ∧ (∀ j < k, okAt L j) ∧ St w noF [⟨g3, 76, took L k⟩] wr) (fun i _ => n - (intOf i).toNat)
  case atStart => exact ⟨0, by omega, rfl, fun j hj => by omega, HS⟩
  case round =>
    clear HS
    obtain ⟨k, hk, rfl, hok, HS⟩ := hrel
    have HOK := Lib.hid hok
    clear hok
    by_cases hlt : k < n
    · obtain ⟨⟨D, q⟩, hx⟩ : ∃ x, l[k]? = some x := ⟨_, List.getElem?_eq_getElem (by rw [HN.out]; exact hlt)⟩
      have HX := Lib.hid hx
      have HDk : Hid (L.getD k 0 = D) := Lib.hid (by rw [← HLL.out, List.getD_eq_getElem?_getD, List.getElem?_map, hx]; rfl)
      obtain ⟨b, o, rfl, hbw, hr, hq, hlo, hhi⟩ := put_at_mem (HV.out.below HS.below (Nat.le_refl _)) HN.out hx
      have HRG := Lib.hid hr
      have HQ := Lib.hid hq
      have hk0 : (0 : Int) ≤ (k : Int) := by omega
      have hk1 : (k : Int) < (n : Int) := by omega
      clear hx hr hq
      go_upto_region 7 with (first | (refine wpList_load_mid rfl 48 _ rfl b (o + k * 33) rfl (pcell (D, q)) _ HRG.out Try.underlying48 rfl (by rw [len_pcell HQ.out]; exact info_put33) ?_) | ((with_reducible refine wpList_plain ?_ ?_); exact rfl; intro KK hKK; refine wp_st_alloc HS 48 (zput0) rfl (.agg (zput0)) (by kernel_rfl) (rfl) (fun g5 W4 HSx => hKK _ _ ?_); clear hKK KK HS; have HS : St w noF [⟨g3, 76, took L k⟩, ⟨g5, 48, zput0⟩] W4 := HSx; clear HSx) | ((with_reducible refine wpList_plain ?_ ?_); exact rfl; intro KK hKK; refine wp_st_store HS 1 0 48 (.tmp 5) (.tmp 19) rfl rfl rfl (.agg (pcell (D, q)).toArray) rfl (by exact (size_pc HQ.out).symm ▸ info_put33) (by rw [Nat.zero_add]; exact Nat.le_of_eq ((size_pc HQ.out).trans size_zput.symm)) (one_pc (D, q)) ((pcell (D, q)).toArray) (spl_agg _ _ _ rfl (size_zput.trans (size_pc HQ.out).symm)) (fun W5 HSx => hKK _ _ ?_); clear hKK KK HS; have HS : St w noF [⟨g3, 76, took L k⟩, ⟨g5, 48, (pcell (D, q)).toArray⟩] W5 := HSx; clear HSx))
      have c5 : W5.cell? ⟨g5, 0, none⟩ = some (.int .i64 D) := (HS.row 1 rfl).get rfl
      clear HRG
      by_cases h0 : 0 ≤ D
      case neg =>
        have hd3 : decide (D < 0) = true := decide_eq_true (by omega)
        have hG : G = false := HNO.out k hlt (fun h => by unfold okAt at h; rw [HDk.out] at h; exact h0 h.1)
        go_wp2_with fail
        go_ret
        first | exact ⟨rfl, HS.below⟩ | (rw [hG]; exact ⟨rfl, HS.below⟩)
      by_cases h12 : D < 12
      case neg =>
        have hd3 : decide (D < 0) = false := decide_eq_false (by omega)
        have hd4 : decide (12 ≤ D) = true := decide_eq_true (by omega)
        have hG : G = false := HNO.out k hlt (fun h => by unfold okAt at h; rw [HDk.out] at h; exact h12 h.2.1)
        go_wp2_with fail
        go_ret
        first | exact ⟨rfl, HS.below⟩ | (rw [hG]; exact ⟨rfl, HS.below⟩)
      obtain ⟨d, rfl⟩ := Int.eq_ofNat_of_zero_le h0
      have hd3 : decide ((d : Int) < 0) = false := decide_eq_false (by omega)
      have hd4 : decide ((12 : Int) ≤ (d : Int)) = false := decide_eq_false (by omega)
      have HD12 : Hid (d < 12) := Lib.hid (by omega)
      have HOT := Lib.hid (ok_took L k d (by rw [HLn.out]; exact hlt) HDk.out HD12.out)
      have c3 : W5.cell? ⟨g3, d, none⟩ = some (.bool (decide ((d : Int) ∈ L.take k))) := (HS.row 0 rfl).get (took_at L k d HD12.out)
      cases ht : decide ((d : Int) ∈ L.take k) with
      | true =>
        rw [ht] at c3
        have hG : G = false := HNO.out k hlt (fun h => by have := HOT.out.1 h; rw [ht] at this; cases this)
        clear ht
        go_wp2_with fail
        go_ret
        first | exact ⟨rfl, HS.below⟩ | (rw [hG]; exact ⟨rfl, HS.below⟩)
      | false =>
        rw [ht] at c3
        have HOKk : Hid (okAt L k) := Lib.hid (HOT.out.2 ht)
        have HTS := Lib.hid (took_set L k d (by rw [HLn.out]; exact hlt) HDk.out)
        clear ht
        go_wp2_with (first | ((with_reducible refine wpList_plain ?_ ?_); exact rfl; intro KK hKK; refine wp_st_put HS 0 d 4 (.tmp 36) (.const (.bool true)) rfl rfl rfl (.bool true) rfl (by kernel_rfl) rfl rfl (by rw [size_took]; exact HD12.out) (took L (k + 1)) (HTS.out) (fun W6 HSx => hKK _ _ ?_); clear hKK KK HS; have HS : St w noF [⟨g3, 76, took L (k + 1)⟩, ⟨g5, 48, (pcell ((d : Int), q)).toArray⟩] W6 := HSx; clear HSx))
        refine ⟨⟨k + 1, by omega, by go_num, fun j hj => ?_, st_cut (show St w noF ([⟨g3, 76, took L (k + 1)⟩] ++ [⟨g5, 48, (pcell ((d : Int), q)).toArray⟩]) W6 from HS)⟩, by simp [intOf] <;> omega⟩
        by_cases e : j = k
        · rw [e]; exact HOKk.out
        · exact HOK.out j (by omega)
    · obtain rfl : k = n := by omega
      have hG : G = true := HYES.out HOK.out
      go_wp2_with fail
      go_ret
      first | exact ⟨rfl, HS.below⟩ | (rw [hG]; exact ⟨rfl, HS.below⟩)
end Go.Proofs.Ytlpfdghciegnnaa

/- The program's packet: may there be such a packet; its head; its bytes. -/
set_option maxRecDepth 4000
namespace Go.Proofs.Ytlpfdghciegnnaa
open Go Go.RowKit
theorem size_pkt : (Try.prog.info? 25).map (·.size) = some 4 := by kernel_rfl
theorem size_head : (Try.prog.info? 56).map (·.size) = some 4 := by kernel_rfl
def headA (k : Int) (e s : BitVec 32) (n : Int) : Array Value := #[.int .i64 k, .int .u32 (wd e), .int .u32 (wd s), .int .i64 n]
theorem head_one (k : Int) (e s : BitVec 32) (n : Int) : (Value.agg (headA k e s n)).cells.all (·.oneCell') = true := by simp [Value.cells, headA, Value.oneCell']
theorem puts_form {w : World} {v : Value} {l : List Pt} (h : PutsAt w v l) : ∃ A n c, v = .slice A n c ∧ l.length = n ∧ n ≤ c := by
  obtain ⟨A, c, h1, h2, _⟩ := h
  exact ⟨A, _, c, h1, rfl, h2⟩
set_option maxHeartbeats 800000 in
theorem pmay_any (p : Pkt) (v : Value) (w : World) (hv : PutsAt w v p.l) (hl : p.l.length ≤ maxLen) : Calls Try.prog 18 #[.agg (pktA p.k p.e p.s v)] w fun x w' => x = .returned (.bool (mayP p)) ∧ Below w.heap.size w w' := by
  obtain ⟨k, e, s, l⟩ := p
  obtain ⟨A, n, c, rfl, hn, _⟩ := puts_form hv
  obtain ⟨G, hG⟩ : ∃ G, mayP ⟨k, e, s, l⟩ = G := ⟨_, rfl⟩
  rw [hG]
  unfold mayP at hG
  simp only at hG hv hl
  have HV := Lib.hid hv
  have HL := Lib.hid hl
  have HN := Lib.hid hn
  have HG := Lib.hid hG
  clear hv hl hn hG
  have HS := St.nil w noF
  go_enter Try.func18, Try.ntmps18
  go_upto_region 1 with (first | ((with_reducible refine wpList_plain ?_ ?_); exact rfl; intro KK hKK; refine wp_st_box HS 25 (.tmp 0) rfl _ rfl (pktA k e s (.slice A n c)) (rfl) (fun g1 W1 HSx => hKK _ _ ?_); clear hKK KK HS; have HS : St w noF [⟨g1, 25, pktA k e s (.slice A n c)⟩] W1 := HSx; clear HSx))
  have c0 : W1.cell? ⟨g1, 0, none⟩ = some (.int .i64 k) := (HS.row 0 rfl).get rfl
  have c3 : W1.cell? ⟨g1, 3, none⟩ = some (.slice A n c) := (HS.row 0 rfl).get rfl
  have HB := Lib.hid HS.below
  have C := Lib.hid (walgood_any l _ W1 (HV.out.below HS.below (Nat.le_refl _)) HL.out)
  clear HS
  by_cases h12 : k = 1 ∨ k = 2
  · have hG : goodB (l.map (·.1)) = G := by rw [← HG.out, if_pos h12]
    have C := C.out
    rw [hG] at C
    clear hG HG
    rcases h12 with rfl | rfl
    all_goals
      go_wp2_with fail
      refine C.mono ?_
      rintro x w2 ⟨rfl, hb⟩
      have HB2 := Lib.hid (HB.out.trans (hb.mono HB.out.size))
      clear hb C
      go_wp2_with fail
      go_ret
      exact ⟨rfl, HB2.out⟩
  by_cases h34 : k = 3 ∨ k = 4
  · have hG : decide (n = 0) = G := by rw [← HG.out, if_neg h12, if_pos h34, HN.out]
    clear HG C
    cases n with
    | zero =>
      rw [decide_eq_true rfl] at hG
      subst hG
      rcases h34 with rfl | rfl
      all_goals
        go_wp2_with fail
        go_ret
        exact ⟨rfl, HB.out⟩
    | succ n =>
      rw [decide_eq_false (Nat.succ_ne_zero n)] at hG
      subst hG
      have hq : ((n + 1 : Nat) : Int) ≠ 0 := by omega
      rcases h34 with rfl | rfl
      all_goals
        go_wp2_with fail
        go_ret
        exact ⟨rfl, HB.out⟩
  have hG : false = G := by rw [← HG.out, if_neg h12, if_neg h34]
  subst hG
  have h1 : k ≠ 1 := fun h => h12 (.inl h)
  have h2 : k ≠ 2 := fun h => h12 (.inr h)
  have h3 : k ≠ 3 := fun h => h34 (.inl h)
  have h4 : k ≠ 4 := fun h => h34 (.inr h)
  clear HG C h12 h34
  go_wp2_with fail
  go_ret
  exact ⟨rfl, HB.out⟩
set_option maxHeartbeats 800000 in
theorem headof_any (k : Int) (e s : BitVec 32) (A : Option Addr) (n c : Nat) (w : World) : Calls Try.prog 19 #[.agg (pktA k e s (.slice A n c))] w fun x w' => x = .returned (.agg (headA k e s n)) ∧ Below w.heap.size w w' := by
  have HS := St.nil w noF
  go_enter Try.func19, Try.ntmps19
  go_upto_region 1 with (first | ((with_reducible refine wpList_plain ?_ ?_); exact rfl; intro KK hKK; refine wp_st_box HS 25 (.tmp 0) rfl _ rfl (pktA k e s (.slice A n c)) (rfl) (fun g1 W1 HSx => hKK _ _ ?_); clear hKK KK HS; have HS : St w noF [⟨g1, 25, pktA k e s (.slice A n c)⟩] W1 := HSx; clear HSx) | ((with_reducible refine wpList_plain ?_ ?_); exact rfl; intro KK hKK; refine wp_st_alloc HS 56 (headA 0 0#32 0#32 0) rfl (.agg (headA 0 0#32 0#32 0)) (by kernel_rfl) (rfl) (fun g2 W2 HSx => hKK _ _ ?_); clear hKK KK HS; have HS : St w noF [⟨g1, 25, pktA k e s (.slice A n c)⟩, ⟨g2, 56, headA 0 0#32 0#32 0⟩] W2 := HSx; clear HSx))
  have c0 : W2.cell? ⟨g1, 0, none⟩ = some (.int .i64 k) := (HS.row 0 rfl).get rfl
  have c1 : W2.cell? ⟨g1, 1, none⟩ = some (.int .u32 (wd e)) := (HS.row 0 rfl).get rfl
  have c2 : W2.cell? ⟨g1, 2, none⟩ = some (.int .u32 (wd s)) := (HS.row 0 rfl).get rfl
  have c3 : W2.cell? ⟨g1, 3, none⟩ = some (.slice A n c) := (HS.row 0 rfl).get rfl
  go_wp2_with (first | ((with_reducible refine wpList_plain ?_ ?_); exact rfl; intro KK hKK; refine wp_st_store HS 1 0 56 (.tmp 2) (.tmp 13) rfl rfl rfl (.agg (headA k e s n)) rfl (by exact size_head) (Nat.le_refl 4) (head_one ..) (headA k e s n) (by exact spl_agg _ _ _ rfl rfl) (fun W3 HSx => hKK _ _ ?_); clear hKK KK HS; have HS : St w noF [⟨g1, 25, pktA k e s (.slice A n c)⟩, ⟨g2, 56, headA k e s n⟩] W3 := HSx; clear HSx))
  refine bodyPost_ret (results_cell_row Try.results19 _ _ g2 56 (headA k e s n) (0, 0) _ rfl (HS.row 1 rfl) Try.underlying56 rfl (by exact size_head)) rfl ?_
  exact ⟨rfl, HS.below⟩
set_option maxHeartbeats 1600000 in
theorem headbytes_any (k : Int) (e s : BitVec 32) (n : Nat) (w : World) : Calls Try.prog 20 #[.agg (headA k e s n)] w fun x w' => ∃ v, x = .returned v ∧ w'.ownsRow w.heap.size 5 1 v 10 (bytesV (hdB k e s n)) ∧ Below w.heap.size w w' := by
  have HS := St.nil w noF
  go_enter Try.func20, Try.ntmps20
  go_upto_region 1 with (first | ((with_reducible refine wpList_plain ?_ ?_); exact rfl; intro KK hKK; refine wp_st_box HS 56 (.tmp 0) rfl _ rfl (headA k e s n) (rfl) (fun g1 W1 HSx => hKK _ _ ?_); clear hKK KK HS; have HS : St w noF [⟨g1, 56, headA k e s n⟩] W1 := HSx; clear HSx))
  obtain ⟨B0, hB0⟩ : ∃ B0, W1.heap.size = B0 := ⟨_, rfl⟩
  have HB0 := Lib.hid hB0
  have HSW := Lib.hid HS
  have c0 : W1.cell? ⟨g1, 0, none⟩ = some (.int .i64 k) := (HS.row 0 rfl).get rfl
  have hw0 : IntKind.u8.wrap k = bd (byteP k) := wrap_u8_bd k
  have OW := own_litq W1 [byteP k] (by unfold maxLen; simp)
  have HBA := Lib.hid ((Below.refl W1.heap.size W1).alloc (Nat.le_refl _) (.cells #[.int .u8 (bd (byteP k))] 5))
  clear HS
  rw [hB0] at OW HBA
  have HOW : Hid ((W1.alloc (.cells #[.int .u8 (bd (byteP k))] 5)).ownsRow B0 5 1 (.slice (some ⟨B0, 0, none⟩) 1 1) [byteP k].length (bytesV [byteP k])) := Lib.hid OW
  clear OW hB0
  go_upto_region 2 with fail
  rw [HB0.out]
  generalize W1.alloc (.cells #[.int .u8 (bd (byteP k))] 5) = W13 at *
  have HS13 := Lib.hid (HSW.out.same (by rw [HB0.out]; exact HBA.out))
  have c1 : W13.cell? ⟨g1, 1, none⟩ = some (.int .u32 (wd e)) := (HS13.out.row 0 rfl).get rfl
  have C := applong_any B0 [byteP k] e _ W13 HOW.out (Nat.le_trans (Nat.le_of_eq HB0.out.symm) HBA.out.size) (Nat.le_of_ble_eq_true rfl)
  clear HOW HS13 c0 hw0
  go_wp2_with fail
  refine C.mono ?_
  rintro x W16 ⟨v7, rfl, h7, b7⟩
  have HB8 := Lib.hid (HBA.out.trans b7)
  clear C c1 b7 HBA
  have HS16 := Lib.hid (HSW.out.same (by rw [HB0.out]; exact HB8.out))
  have c2 : W16.cell? ⟨g1, 2, none⟩ = some (.int .u32 (wd s)) := (HS16.out.row 0 rfl).get rfl
  have C := applong_any B0 ([byteP k] ++ four e) s v7 W16 h7 (Nat.le_trans (Nat.le_of_eq HB0.out.symm) HB8.out.size) (Nat.le_of_ble_eq_true rfl)
  clear h7 HS16
  go_wp2_with fail
  refine C.mono ?_
  rintro x W17 ⟨v8, rfl, h8, b8⟩
  have HB9 := Lib.hid (HB8.out.trans b8)
  have HO8 : Hid (W17.ownsRow B0 5 1 v8 9 (bytesV ([byteP k] ++ four e ++ four s))) := Lib.hid h8
  clear C c2 b8 HB8 h8
  have HS17 := Lib.hid (HSW.out.same (by rw [HB0.out]; exact HB9.out))
  have c3 : W17.cell? ⟨g1, 3, none⟩ = some (.int .i64 n) := (HS17.out.row 0 rfl).get rfl
  have hw3 : IntKind.u8.wrap (n : Int) = bd (byteP n) := wrap_u8_bd _
  have HP5 : Hid (Slice (W17.alloc (.cells #[.int .u8 (bd (byteP n))] 5)) (.slice (some ⟨W17.heap.size, 0, none⟩) 1 1) [byteP n]) := Lib.hid (row_slice (Row.fresh W17 5 (bs [byteP n])) (c := 1) (Nat.le_refl _))
  have HO9 := Lib.hid (HO8.out.alloc (.cells #[.int .u8 (bd (byteP n))] 5))
  have HBX := Lib.hid (HB9.out.alloc (by rw [← HB0.out]; exact HB9.out.size) (.cells #[.int .u8 (bd (byteP n))] 5))
  clear HS17 HO8
  go_wp2_with (at_builtin; refine wpList_append_slice rfl (.tmp 18) (.tmp 22) rfl B0 _ 9 _ rfl HO9.out (some ⟨W17.heap.size, 0, none⟩) 1 1 _ rfl HP5.out (fun h => by cases h) (by decide) (Nat.le_trans (Nat.le_of_eq HB0.out.symm) HBX.out.size) ?_; intro v6 W18 own6 hb6; rw [← bytesV_apps] at own6; have HO7 := Lib.hid own6; have HB7 := Lib.hid (HBX.out.trans hb6); clear own6 hb6)
  go_ret
  have hz : w.heap.size ≤ B0 := by rw [← HB0.out]; exact HSW.out.below.size
  exact ⟨_, rfl, own_base HO7.out hz, HSW.out.below.trans (HB7.out.mono hz)⟩
theorem prow_grown {w w' : World} {base e n g size : Nat} {t : TypeId} {v : Value} {xs : List Value} {cs : Array Value} (hr : Row w g t cs) (h : w.ownsRow base e size v n xs) (hne : e ≠ t) (hg : w.grownBy w' v.ownBlock) : Row w' g t cs :=
  (hg.block g hr.lt (fun e0 => own_apart h hr hne g e0.symm rfl)).trans hr
/- an append to a slice of bytes of one's own, and what it changes -/
theorem wpList_append_sliceG {w : World} {ops : Array Oper} {rest : List Oper} {o : Oper} {a : Act} {Q : Exit → Act → World → Prop} (hgd : o.guard = none) (s x : Operand)
    (ho : o.op = .call { callee := .builtin .append, args := #[s, x], argTypes := #[26, 26] }) (base : Nat)
    (v : Value) (n : Nat) (xs : List Value) (hs : a.eval s = v) (hown : w.ownsRow base 5 1 v n xs)
    (ad : Addr) (m c : Nat) (q : List (BitVec 8)) (hx : a.eval x = .slice (some ad) m c) (hq : Slice w (.slice (some ad) m c) q)
    (hnm : n + m ≤ 1000000000) (hbase : base ≤ w.heap.size)
    (h : ∀ v' w', w'.ownsRow base 5 1 v' (n + m) (xs ++ bytesV q) → Below base w w' → w.grownBy w' v.ownBlock → wpList Try.prog ops Q rest (a.put o.dst v') w') : wpList Try.prog ops Q (o :: rest) a w := by
  obtain ⟨i0, hi, hz0, hz1, hz2⟩ := info_parts info_u8
  have hblk : ∀ g, v.ownBlock = some g → base ≤ g := fun g hg => (hown.lt g hg).1
  obtain ⟨A', c', e1, _, h3⟩ := hq
  injection e1 with e1 e2 e3
  subst e1 e2 e3
  refine wpList_append_own w hgd s x 26 ho base 5 i0 (.int .u8 0) 1 1 Try.underlying26 hi hz0 hz1 hz2 rfl (by omega) v n xs hs hown ad q.length c (bytesV q) hx (by simp [bytesV]) ?_ (one_bytesV q) (by unfold maxLen; omega) (by omega) hbase ?_
  · intro j u hu
    have hne : q ≠ [] := by rintro rfl; simp [bytesV] at hu
    obtain ⟨b, o, h4, _, h6⟩ := h3 hne
    have h4 := Option.some.inj h4
    subst h4
    rw [Addr.add_mid]
    simp only [bytesV, List.getElem?_map, Option.map_eq_some_iff] at hu
    obtain ⟨y, hy, rfl⟩ := hu
    exact h6 j y hy
  · intro v' w' h1 h2 _
    exact h v' w' h1 (below_of_grown h2 hblk hbase) h2
theorem put_slice {w : World} {g : Nat} {t : TypeId} {D : Int} {q : List (BitVec 8)} (h : Row w g t (pcell (D, q)).toArray) (hq : q.length = 32) : Slice w (.slice (some ⟨g, 1, none⟩) 32 32) q := by
  refine ⟨some ⟨g, 1, none⟩, 32, by rw [hq], by rw [hq]; exact Nat.le_refl _, fun _ => ⟨g, 1, rfl, h.lt, fun j x hx => ?_⟩⟩
  refine h.get ?_
  rw [List.getElem?_toArray, show 1 + j = j + 1 by omega]
  show (bytesV q)[j]? = _
  simp [bytesV, hx]
set_option maxHeartbeats 800000 in
theorem pktenc_bad (p : Pkt) (v : Value) (w : World) (hv : PutsAt w v p.l) (hl : p.l.length ≤ maxLen) (hc : mayP p = false) : Calls Try.prog 8 #[.agg (pktA p.k p.e p.s v)] w fun x w' => x = .returned (.tuple #[.slice none 0 0, .int .i64 11]) ∧ Below w.heap.size w w' := by
  have C := Lib.hid (fun W (hb : Below w.heap.size w W) => pmay_any p v W (hv.below hb (Nat.le_refl _)) hl)
  rw [hc] at C
  obtain ⟨k, e, s, l⟩ := p
  obtain ⟨A, n, c, rfl, hn, _⟩ := puts_form hv
  clear hc hv hl hn
  have HS := St.nil w noF
  go_enter Try.func8, Try.ntmps8
  go_upto_region 1 with (first | ((with_reducible refine wpList_plain ?_ ?_); exact rfl; intro KK hKK; refine wp_st_box HS 25 (.tmp 0) rfl _ rfl (pktA k e s (.slice A n c)) (rfl) (fun g1 W1 HSx => hKK _ _ ?_); clear hKK KK HS; have HS : St w noF [⟨g1, 25, pktA k e s (.slice A n c)⟩] W1 := HSx; clear HSx))
  have HB := Lib.hid HS.below
  go_wp2_with (first | ((with_reducible refine wpList_plain ?_ ?_); exact rfl; intro KK hKK; refine wp_st_load HS 0 0 25 (.tmp 1) rfl rfl rfl (pktA k e s (.slice A n c)) (slab_whole _) _ Try.underlying25 rfl (by exact size_pkt) (hKK _ _ ?_); clear hKK KK))
  refine (C.out _ HB.out).mono ?_
  rintro x w1 ⟨rfl, hb⟩
  have HB2 := Lib.hid (HB.out.trans (hb.mono HB.out.size))
  clear HS hb C
  go_wp2_with fail
  go_ret2
  exact ⟨rfl, HB2.out⟩
set_option maxHeartbeats 3200000 in
theorem pktenc_good (p : Pkt) (v : Value) (w : World) (hv : PutsAt w v p.l) (hc : mayP p = true) :
    Calls Try.prog 8 #[.agg (pktA p.k p.e p.s v)] w fun x w' => ∃ v', x = .returned (.tuple #[v', .int .i64 0]) ∧ w'.ownsRow w.heap.size 5 1 v' (encP p).length (bytesV (encP p)) ∧ Below w.heap.size w w' := by
  have hn5 := mayP_len hc
  have C := Lib.hid (fun W (hb : Below w.heap.size w W) => pmay_any p v W (hv.below hb (Nat.le_refl _)) (by unfold maxLen; omega))
  rw [hc] at C
  have h32 : ∀ x ∈ p.l, x.2.length = 32 := by obtain ⟨_, _, _, _, h, _⟩ := hv; exact fun x hx => (h x hx).1
  have HLB := Lib.hid (length_bodyP h32)
  have HLE := Lib.hid (length_encP h32)
  obtain ⟨Z, hZ⟩ : ∃ Z, encP p = Z := ⟨_, rfl⟩
  obtain ⟨Y, hY⟩ : ∃ Y, bodyP p = Y := ⟨_, rfl⟩
  have HZ : Hid (Z = Y ++ two (crcOf Y)) := Lib.hid (by rw [← hZ, ← hY]; rfl)
  rw [hZ] at HLE ⊢
  rw [hY] at HLB
  obtain ⟨k, e, s, l⟩ := p
  obtain ⟨A, n, c, rfl, hn, _⟩ := puts_form hv
  simp only at hv hn5 hY HLB HLE h32
  have HY : Hid (hdB k e s n ++ (l.map putB).flatten = Y) := Lib.hid (by rw [← hn]; exact hY)
  rw [hn] at HLB HLE hn5
  have HV := Lib.hid hv
  have HN := Lib.hid hn
  have HN5 := Lib.hid hn5
  have H32 := Lib.hid h32
  clear hv hc hn hn5 hZ hY h32
  have HS := St.nil w noF
  go_enter Try.func8, Try.ntmps8
  go_upto_region 1 with (first | ((with_reducible refine wpList_plain ?_ ?_); exact rfl; intro KK hKK; refine wp_st_box HS 25 (.tmp 0) rfl _ rfl (pktA k e s (.slice A n c)) (rfl) (fun g1 W1 HSx => hKK _ _ ?_); clear hKK KK HS; have HS : St w noF [⟨g1, 25, pktA k e s (.slice A n c)⟩] W1 := HSx; clear HSx))
  have HB := Lib.hid HS.below
  go_wp2_with (first | ((with_reducible refine wpList_plain ?_ ?_); exact rfl; intro KK hKK; refine wp_st_load HS 0 0 25 (.tmp 1) rfl rfl rfl (pktA k e s (.slice A n c)) (slab_whole _) _ Try.underlying25 rfl (by exact size_pkt) (hKK _ _ ?_); clear hKK KK))
  refine (C.out _ HB.out).mono ?_
  rintro x w1 ⟨rfl, hb⟩
  have HSx := HS.same hb
  clear HS hb C HB
  have HS := HSx
  clear HSx
  have CH := fun W => headof_any k e s A n c W
  have CB := fun W => headbytes_any k e s n W
  go_wp2_with (first | ((with_reducible refine wpList_plain ?_ ?_); exact rfl; intro KK hKK; refine wp_st_load HS 0 0 25 (.tmp 1) rfl rfl rfl (pktA k e s (.slice A n c)) (slab_whole _) _ Try.underlying25 rfl (by exact size_pkt) (hKK _ _ ?_); clear hKK KK))
  refine (CH _).mono ?_
  rintro x w2 ⟨rfl, hb⟩
  have HSx := HS.same hb
  clear HS hb CH
  have HS := HSx
  clear HSx
  go_wp2_with fail
  refine (CB _).mono ?_
  rintro x w3 ⟨v3, rfl, ho, hb⟩
  have HSx := HS.same hb
  have HO3 := Lib.hid (own_base ho HS.below.size)
  clear HS hb CB ho
  have HS := HSx
  clear HSx
  have c3 : w3.cell? ⟨g1, 3, none⟩ = some (.slice A n c) := (HS.row 0 rfl).get rfl
  have HB3 := Lib.hid HS.below
  clear HS
  go_wp2_with fail
  clear c3
  go_loopw [4, 16] (fun v i wr => ∃ j : Nat, j ≤ n ∧ i = .int .i64 j ∧ wr.ownsRow w.heap.size 5 1 v (10 + 33 * j) (bytesV (hdB k e s n ++ ((l.take j).map putB).flatten)) ∧ Below w.heap.size w wr) (fun _ i _ => n - (intOf i).toNat)
  case atStart => exact ⟨0, by omega, rfl, by rw [List.take_zero]; simpa using HO3.out, HB3.out⟩
  case round =>
    obtain ⟨j, hj, rfl, ho, hb⟩ := hrel
    obtain ⟨B4, c4, rfl, _⟩ := own_slice_form ho
    have HO := Lib.hid ho
    have HB := Lib.hid hb
    have hn5 := HN5.out
    clear ho hb
    by_cases hlt : j < n
    · obtain ⟨⟨D, q⟩, hx⟩ : ∃ x, l[j]? = some x := ⟨_, List.getElem?_eq_getElem (by rw [HN.out]; exact hlt)⟩
      have HTK : Hid (((l.take (j + 1)).map putB).flatten = ((l.take j).map putB).flatten ++ ([byteP D] ++ q)) := Lib.hid (by rw [List.take_add_one, hx]; simp [putB])
      obtain ⟨b, o, rfl, hbw, hr, hq, hlo, hhi⟩ := put_at_mem HV.out HN.out hx
      obtain ⟨O, hO⟩ : ∃ O, o + j * 33 = O := ⟨_, rfl⟩
      rw [hO] at hr
      have HRG : Hid (wr.rangeAt b O (pcell (D, q))) := Lib.hid fun i v hv => (HB.out.cell (p := ⟨b, O + i, none⟩) hbw).trans (hr i v hv)
      have HQ := Lib.hid hq
      have hk0 : (0 : Int) ≤ (j : Int) := by omega
      have hk1 : (j : Int) < (n : Int) := by omega
      clear hx hr hq
      have HS := St.nil wr noF
      go_upto_region 7 with (first | ((with_reducible refine wpList_plain ?_ ?_); exact rfl; intro KK hKK; refine wp_load_mid 48 (.tmp 18) rfl b O rfl (pcell (D, q)) _ HRG.out Try.underlying48 rfl (by rw [len_pcell HQ.out]; exact info_put33) (hKK _ _ ?_); clear hKK KK) | ((with_reducible refine wpList_plain ?_ ?_); exact rfl; intro KK hKK; refine wp_st_alloc HS 48 (zput0) rfl (.agg (zput0)) (by kernel_rfl) (rfl) (fun g6 W1 HSx => hKK _ _ ?_); clear hKK KK HS; have HS : St wr noF [⟨g6, 48, zput0⟩] W1 := HSx; clear HSx) | ((with_reducible refine wpList_plain ?_ ?_); exact rfl; intro KK hKK; refine wp_st_store HS 0 0 48 (.tmp 6) (.tmp 19) rfl rfl rfl (.agg (pcell (D, q)).toArray) rfl (by exact (size_pc HQ.out).symm ▸ info_put33) (by rw [Nat.zero_add]; exact Nat.le_of_eq ((size_pc HQ.out).trans size_zput.symm)) (one_pc (D, q)) ((pcell (D, q)).toArray) (spl_agg _ _ _ rfl (size_zput.trans (size_pc HQ.out).symm)) (fun W2 HSx => hKK _ _ ?_); clear hKK KK HS; have HS : St wr noF [⟨g6, 48, (pcell (D, q)).toArray⟩] W2 := HSx; clear HSx))
      have c0 : W2.cell? ⟨g6, 0, none⟩ = some (.int .i64 D) := (HS.row 0 rfl).get rfl
      have hw0 : IntKind.u8.wrap D = bd (byteP D) := wrap_u8_bd D
      have HRW : Hid (Row W2 g6 48 (pcell (D, q)).toArray) := Lib.hid (HS.row 0 rfl)
      have HBE := Lib.hid HS.below
      clear HS hk0 hk1 hO
      have HP5 : Hid (Slice (W2.alloc (.cells #[.int .u8 (bd (byteP D))] 5)) (.slice (some ⟨W2.heap.size, 0, none⟩) 1 1) [byteP D]) := Lib.hid (row_slice (Row.fresh W2 5 (bs [byteP D])) (c := 1) (Nat.le_refl _))
      have HB6 := Lib.hid ((HB.out.trans (HBE.out.mono HB.out.size)).alloc (HB.out.trans (HBE.out.mono HB.out.size)).size (.cells #[.int .u8 (bd (byteP D))] 5))
      have HO6 := Lib.hid ((owns_call HO.out HBE.out).alloc (.cells #[.int .u8 (bd (byteP D))] 5))
      go_upto_region 8 with (at_builtin; refine wpList_append_sliceG rfl (.tmp 20) (.tmp 24) rfl w.heap.size _ (10 + 33 * j) _ rfl HO6.out ⟨W2.heap.size, 0, none⟩ 1 1 _ rfl HP5.out (by omega) HB6.out.size ?_; intro v7 w7 own7 hb7 hg7; rw [← bytesV_apps] at own7; have HO7 := Lib.hid own7; have HB7 := Lib.hid (HB6.out.trans hb7); have HRX := Lib.hid (prow_grown (HRW.out.alloc (.cells #[.int .u8 (bd (byteP D))] 5)) HO6.out (by decide) hg7); clear own7 hb7 hg7 HP5 HO6 HB6)
      clear c0 hw0
      have HSL : Hid (Slice w7 (.slice (some ⟨g6, 1, none⟩) 32 32) q) := Lib.hid (put_slice HRX.out HQ.out)
      go_wp2_with (at_builtin; refine wpList_append_slice rfl (.tmp 26) (.tmp 28) rfl w.heap.size _ (10 + 33 * j + 1) _ rfl HO7.out (some ⟨g6, 1, none⟩) 32 32 q rfl HSL.out (fun h => by cases h) (by omega) HB7.out.size ?_; intro v8 w8 own8 hb8; rw [← bytesV_apps] at own8; have HO8 := Lib.hid own8; have HB8 := Lib.hid (HB7.out.trans hb8); clear own8 hb8)
      refine ⟨⟨j + 1, by omega, by go_num, ?_, HB8.out⟩, by simp [intOf]; omega⟩
      have h8 := HO8.out
      rw [HTK.out, show 10 + 33 * (j + 1) = 10 + 33 * j + 1 + 32 by omega]
      rw [List.append_assoc, List.append_assoc] at h8
      exact h8
    · obtain rfl : j = n := by omega
      have own5 := HO.out
      rw [List.take_of_length_le (by rw [HN.out]; exact Nat.le_refl _), HY.out] at own5
      have hs5 := own_slice (q := Y) (by rw [HLB.out]; exact own5)
      have HB6 := Lib.hid (HB.out.alloc HB.out.size (.cells #[.slice B4 (10 + 33 * j) c4] 26))
      have HO6 := Lib.hid (own5.alloc (.cells #[.slice B4 (10 + 33 * j) c4] 26))
      have CK := check_any [Y] _ _ (parts1 hs5) (by simp [maxLen]) (by have := HLB.out; simp [maxLen]; omega)
      rw [List.flatten_cons, List.flatten_nil, List.append_nil] at CK
      obtain ⟨K, hK⟩ : ∃ K, crcOf Y = K := ⟨_, rfl⟩
      rw [hK] at CK
      obtain ⟨w6, hw6⟩ : ∃ w6, wr.alloc (.cells #[.slice B4 (10 + 33 * j) c4] 26) = w6 := ⟨_, rfl⟩
      rw [hw6] at HB6 HO6 CK
      have CS := appshort_any w.heap.size Y K _ w6 (by rw [HLB.out]; exact HO6.out) HB6.out.size (by rw [HLB.out]; omega)
      have HKZ : Hid (Y ++ two K = Z) := Lib.hid (by rw [HZ.out, hK])
      clear own5 hs5 hK HO
      go_wp2_with fail
      refine CK.mono ?_
      rintro x w7 ⟨rfl, rfl⟩
      clear CK
      go_wp2_with fail
      refine CS.mono ?_
      rintro x w8 ⟨v8, rfl, h8, b8⟩
      rw [HKZ.out, HLB.out] at h8
      have HO8 := Lib.hid h8
      have HB8 := Lib.hid (HB6.out.trans b8)
      clear CS h8 b8
      go_wp2_with fail
      go_ret2
      exact ⟨_, rfl, by rw [HLE.out, show 12 + 33 * j = 10 + 33 * j + 2 by omega]; exact HO8.out, HB8.out⟩
end Go.Proofs.Ytlpfdghciegnnaa
