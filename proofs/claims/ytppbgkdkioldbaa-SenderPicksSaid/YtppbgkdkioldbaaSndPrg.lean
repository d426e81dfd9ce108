/- The program's sender: slices.Clone of puts, is, copied, replace. -/
import Derived.Test.YtppbgkdkioldbaaSndSpec
import Derived.Test.YtppbgkdkioldbaaPktPrg
import Derived.Lib.SliceRun
set_option maxRecDepth 4000
namespace Go.Proofs.Ytppbgkdkioldbaa
open Go Go.RowKit
theorem pkt_one (k : Int) (e s : BitVec 32) (A : Option Addr) (n c : Nat) : (Value.agg (pktA k e s (.slice A n c))).cells.all (·.oneCell') = true := by simp [Value.cells, pktA, Value.oneCell']
theorem st_again {w0 w : World} {F G : Nat → Prop} {R : List Blk} (h : St w0 F R w) (hG : ∀ (k : Nat) (r : Blk), R[k]? = some r → G r.g) : St w G R w := ⟨Chg.refl _ _, h.rows, h.apart, fun k r hk => .inl (hG k r hk)⟩
theorem chg_belowF {w w' : World} {F : Nat → Prop} {B : Nat} (h : Chg F w w') (hF : ∀ k, F k → B ≤ k) (hB : B ≤ w.heap.size) : Below B w w' :=
  ⟨h.os, h.tape, h.output, h.size, fun k hk => h.block k (by omega) (fun e => by have := hF k e; omega)⟩
def NoU8 (cs : Array Value) : Prop := ∀ (j : Nat) (x : Value), cs[j]? = some x → ∀ z, x ≠ .int .u8 z
theorem nou8_list {l : List Value} (h : ∀ x ∈ l, ∀ z, x ≠ .int .u8 z) : NoU8 l.toArray := fun j x hx z => h x (List.mem_of_getElem? (by simpa using hx)) z
theorem nou8_pkt (k : Int) (e s : BitVec 32) (A : Option Addr) (n c : Nat) : NoU8 (pktA k e s (.slice A n c)) := nou8_list (by simp)
/- puts stay where blocks are written that hold no bytes -/
theorem puts_keep {w w' : World} {F : Nat → Prop} {v : Value} {l : List Pt} (h : PutsAt w v l) (k : Chg F w w') (hF : ∀ g, F g → g < w.heap.size → ∃ t cs, Row w g t cs ∧ NoU8 cs) : PutsAt w' v l := by
  obtain ⟨A, c, h1, h2, h3, h4⟩ := h
  refine ⟨A, c, h1, h2, h3, fun hne => ?_⟩
  obtain ⟨b, o, h5, h6, h7⟩ := h4 hne
  have hb : ¬ F b := fun hb => by
    obtain ⟨t, cs, hr, hn⟩ := hF b hb h6
    obtain ⟨x, hx⟩ : ∃ x, l[0]? = some x := ⟨_, List.getElem?_eq_getElem (List.length_pos_iff.2 hne)⟩
    have hq := (h3 x (List.mem_of_getElem? hx)).1
    have hc := h7 0 x hx 1 (.int .u8 (bd (x.2.getD 0 0#8))) (by
      show (bytesV x.2)[0]? = _
      cases hl : x.2 with
      | nil => rw [hl] at hq; cases hq
      | cons y t => rfl)
    rw [hr.cell] at hc
    exact hn _ _ hc _ rfl
  refine ⟨b, o, h5, Nat.lt_of_lt_of_le h6 k.size, fun i x hx j u hu => ?_⟩
  rw [World.cell?_of_block (w := w) (w' := w') (a := ⟨b, o + i * 33 + j, none⟩) (k.block b h6 hb)]
  exact h7 i x hx j u hu
theorem puts_len {w : World} {A : Option Addr} {n c : Nat} {l : List Pt} (h : PutsAt w (.slice A n c) l) : l.length = n := by
  obtain ⟨A', c', e, _⟩ := h
  injection e with _ e _
  exact e.symm
set_option maxHeartbeats 800000 in
theorem clone_puts (A : Option Addr) (n c : Nat) (l : List Pt) (w : World) (h : PutsAt w (.slice A n c) l) (hn : n ≤ 1000000) :
    Calls Try.prog 39 #[.slice A n c] w fun x w' => ∃ B m d, x = .returned (.slice B m d) ∧ PutsAt w' (.slice B m d) l ∧ Below w.heap.size w w' := by
  obtain rfl := puts_len h
  cases A with
  | none =>
    have hl : l = [] := by
      apply Decidable.byContradiction
      intro hne
      obtain ⟨_, _, e, _, _, h4⟩ := h
      injection e with e _ _
      obtain ⟨_, _, e2, _⟩ := h4 hne
      rw [← e] at e2
      cases e2
    subst hl
    have hz : (binOp .eql 28 (.slice none 0 c) (.slice none 0 0)).run Try.prog w = .ok (.bool true) w := Lib.run_eql_slice_nil w _ _ none 0 c 0 0 Try.underlying28
    clear h hn
    simp only [List.length_nil]
    go_enter Try.func39, Try.ntmps39
    go_wp2_with fail
    go_ret
    exact ⟨_, _, _, rfl, ⟨none, 0, rfl, Nat.le_refl _, fun x hx => by simp at hx, fun h => absurd rfl h⟩, Below.refl _ _⟩
  | some ad =>
    have hz : (binOp .eql 28 (.slice (some ad) l.length c) (.slice none 0 0)).run Try.prog w = .ok (.bool false) w := Lib.run_eql_slice_nil w _ _ (some ad) l.length c 0 0 Try.underlying28
    have HE : Hid (Row (w.alloc (.cells #[] 61)) w.heap.size 61 #[]) := Lib.hid (Row.fresh w 61 #[])
    have HB := Lib.hid ((Below.refl w.heap.size w).alloc (Nat.le_refl _) (.cells #[] 61))
    have HI := Lib.hid (h.below HB.out (Nat.le_refl _))
    have HN := Lib.hid hn
    clear h hn
    go_enter Try.func39, Try.ntmps39
    go_wp2_with ((with_reducible refine wpList_plain ?_ ?_); exact rfl; intro KK hKK; refine wp_append_puts_own (.tmp 5) (.tmp 6) rfl w.heap.size rfl HE.out (some ad) c l rfl HI.out HN.out (fun kv w4 hp hb4 hf _ => hKK _ _ ?_); clear hKK KK; obtain ⟨B9, m9, d9, rfl⟩ := hf; have HO := Lib.hid hp; have HB4 := Lib.hid (HB.out.trans (hb4.mono HB.out.size)); clear hp hb4)
    go_ret
    exact ⟨_, _, _, rfl, HO.out, HB4.out⟩
theorem is_any (k : Int) (e s : BitVec 32) (v : Value) (w : World) : Calls Try.prog 28 #[.agg (pktA k e s v)] w fun x w' => x = .returned (.bool (decide (k ≠ 0))) ∧ Below w.heap.size w w' := by
  have HS := St.nil w noF
  by_cases h : k = 0
  · subst h
    go_enter Try.func28, Try.ntmps28
    go_upto_region 1 with (first | ((with_reducible refine wpList_plain ?_ ?_); exact rfl; intro KK hKK; refine wp_st_box HS 30 (.tmp 0) rfl _ rfl (pktA 0 e s v) (rfl) (fun g1 W1 HSx => hKK _ _ ?_); clear hKK KK HS; have HS : St w noF [⟨g1, 30, pktA 0 e s v⟩] W1 := HSx; clear HSx))
    have c0 : W1.cell? ⟨g1, 0, none⟩ = some (.int .i64 0) := (HS.row 0 rfl).get rfl
    go_wp2_with fail
    go_ret
    exact ⟨rfl, HS.below⟩
  · have hd : decide (k ≠ 0) = true := decide_eq_true h
    rw [hd]
    go_enter Try.func28, Try.ntmps28
    go_upto_region 1 with (first | ((with_reducible refine wpList_plain ?_ ?_); exact rfl; intro KK hKK; refine wp_st_box HS 30 (.tmp 0) rfl _ rfl (pktA k e s v) (rfl) (fun g1 W1 HSx => hKK _ _ ?_); clear hKK KK HS; have HS : St w noF [⟨g1, 30, pktA k e s v⟩] W1 := HSx; clear HSx))
    have c0 : W1.cell? ⟨g1, 0, none⟩ = some (.int .i64 k) := (HS.row 0 rfl).get rfl
    clear hd
    go_wp2_with fail
    go_ret
    exact ⟨by simp [h], HS.below⟩
set_option maxHeartbeats 800000 in
theorem copied_any (k : Int) (e s : BitVec 32) (A : Option Addr) (n c : Nat) (l : List Pt) (w : World) (h : PutsAt w (.slice A n c) l) (hn : n ≤ 1000000) :
    Calls Try.prog 30 #[.agg (pktA k e s (.slice A n c))] w fun x w' => ∃ B m d, x = .returned (.agg (pktA k e s (.slice B m d))) ∧ PutsAt w' (.slice B m d) l ∧ Below w.heap.size w w' := by
  have HV := Lib.hid h
  clear h
  have HS := St.nil w noF
  go_enter Try.func30, Try.ntmps30
  go_upto_region 1 with (first | ((with_reducible refine wpList_plain ?_ ?_); exact rfl; intro KK hKK; refine wp_st_box HS 30 (.tmp 0) rfl _ rfl (pktA k e s (.slice A n c)) (rfl) (fun g1 W1 HSx => hKK _ _ ?_); clear hKK KK HS; have HS : St w noF [⟨g1, 30, pktA k e s (.slice A n c)⟩] W1 := HSx; clear HSx) | ((with_reducible refine wpList_plain ?_ ?_); exact rfl; intro KK hKK; refine wp_st_alloc HS 30 (pktA 0 0#32 0#32 (.slice none 0 0)) rfl (.agg (pktA 0 0#32 0#32 (.slice none 0 0))) (by kernel_rfl) (rfl) (fun g2 W2 HSx => hKK _ _ ?_); clear hKK KK HS; have HS : St w noF [⟨g1, 30, pktA k e s (.slice A n c)⟩, ⟨g2, 30, pktA 0 0#32 0#32 (.slice none 0 0)⟩] W2 := HSx; clear HSx))
  have c3 : W2.cell? ⟨g1, 3, none⟩ = some (.slice A n c) := (HS.row 0 rfl).get rfl
  have C := clone_puts A n c l W2 (HV.out.below HS.below (Nat.le_refl _)) hn
  go_wp2_with fail
  refine C.mono ?_
  rintro x W5 ⟨B, m, d, rfl, hp, hb⟩
  have HSx := HS.same hb
  have HP := Lib.hid hp
  have HS := st_again (G := fun k => k = g1 ∨ k = g2) HSx (fun k r hk => by
    match k, hk with
    | 0, hk => cases hk; exact .inl rfl
    | 1, hk => cases hk; exact .inr rfl)
  have HF : Hid (∀ y, (y = g1 ∨ y = g2) → w.heap.size ≤ y ∧ ∃ t cs, Row W5 y t cs ∧ NoU8 cs) := Lib.hid fun y hy => by
    rcases hy with rfl | rfl
    · exact ⟨(HSx.own 0 _ rfl).resolve_left (fun h => h), 30, pktA k e s (.slice A n c), HSx.row 0 rfl, nou8_pkt _ _ _ _ _ _⟩
    · exact ⟨(HSx.own 1 _ rfl).resolve_left (fun h => h), 30, pktA 0 0#32 0#32 (.slice none 0 0), HSx.row 1 rfl, nou8_pkt _ _ _ _ _ _⟩
  have HS5 := Lib.hid HSx.below
  clear hb C c3 hp HSx
  go_wp2_with (first | ((with_reducible refine wpList_plain ?_ ?_); exact rfl; intro KK hKK; refine wp_st_put HS 0 3 28 (.tmp 6) (.tmp 5) rfl rfl rfl (.slice B m d) rfl (by kernel_rfl) rfl rfl (by show 3 < 4; decide) (pktA k e s (.slice B m d)) (by exact rfl) (fun W6 HSx => hKK _ _ ?_); clear hKK KK HS; have HS : St W5 (fun k => k = g1 ∨ k = g2) [⟨g1, 30, pktA k e s (.slice B m d)⟩, ⟨g2, 30, pktA 0 0#32 0#32 (.slice none 0 0)⟩] W6 := HSx; clear HSx) | ((with_reducible refine wpList_plain ?_ ?_); exact rfl; intro KK hKK; refine wp_st_load HS 0 0 30 (.tmp 1) rfl rfl rfl (pktA k e s (.slice B m d)) (slab_whole _) _ Try.underlying30 rfl (by exact size_pkt) (hKK _ _ ?_); clear hKK KK) | ((with_reducible refine wpList_plain ?_ ?_); exact rfl; intro KK hKK; refine wp_st_store HS 1 0 30 (.tmp 2) (.tmp 7) rfl rfl rfl (.agg (pktA k e s (.slice B m d))) rfl (by exact size_pkt) (Nat.le_refl 4) (pkt_one ..) (pktA k e s (.slice B m d)) (by exact spl_agg _ _ _ rfl rfl) (fun W7 HSx => hKK _ _ ?_); clear hKK KK HS; have HS : St W5 (fun k => k = g1 ∨ k = g2) [⟨g1, 30, pktA k e s (.slice B m d)⟩, ⟨g2, 30, pktA k e s (.slice B m d)⟩] W7 := HSx; clear HSx))
  refine bodyPost_ret (results_cell_row Try.results30 _ _ g2 30 (pktA k e s (.slice B m d)) (0, 0) _ rfl (HS.row 1 rfl) Try.underlying30 rfl (by exact size_pkt)) rfl ?_
  exact ⟨_, _, _, rfl, puts_keep HP.out HS.chg (fun k hk _ => (HF.out k hk).2), HS5.out.trans (chg_belowF HS.chg (fun k hk => (HF.out k hk).1) HS5.out.size)⟩
end Go.Proofs.Ytppbgkdkioldbaa
