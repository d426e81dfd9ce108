import Derived.Test.YtnfceejmkcohnaaDoorTurn
import Derived.Test.YtnfceejmkcohnaaDoorMsg
namespace Go.Proofs.YtnfceejmkcohnaaDoor
open Go Go.RowKit
/- a slice value that reads as q, not in block g -/
def Part (w : World) (g : Nat) (v : Value) (q : List (BitVec 8)) : Prop :=
  ∃ A c, v = .slice A q.length c ∧ q.length ≤ c ∧ (q ≠ [] → ∃ b o, A = some ⟨b, o, none⟩ ∧ b ≠ g ∧ b < w.heap.size ∧ ∀ j x, q[j]? = some x → w.cell? ⟨b, o + j, none⟩ = some (.int .u8 (bd x)))
def MsgAt (w : World) (g : Nat) (M : List (BitVec 8)) : Prop := ∃ b, Tail M b ∧ Row w g 51 (mcells (hashTo M) b M.length)
def AddR (w wr : World) (g : Nat) (v : Value) (all : List (BitVec 8)) : Prop := ∃ M q, M ++ q = all ∧ Part wr g v q ∧ MsgAt wr g M ∧ w.grownBy wr (some g)
def sliceLen : Value → Nat
  | .slice _ n _ => n
  | _ => 0
def bytesV (q : List (BitVec 8)) : List Value := q.map fun x => Value.int .u8 (bd x)
theorem size_u8 : (Tryd.prog.info? 5).map (·.size) = some 1 := by kernel_rfl
theorem one_bytesV (q : List (BitVec 8)) : ∀ v ∈ bytesV q, v.oneCell' = true := by
  intro v hv; simp only [bytesV, List.mem_map] at hv; obtain ⟨x, _, rfl⟩ := hv; rfl
theorem src {w : World} {b o j : Nat} {q : List (BitVec 8)} (h : ∀ j x, q[j]? = some x → w.cell? ⟨b, o + j, none⟩ = some (.int .u8 (bd x))) :
    ∀ i v, (bytesV (q.take j))[i]? = some v → w.drew.cell? ((⟨b, o, none⟩ : Addr).add i) = some v := by
  intro i v hv
  rw [Addr.add_mid]
  simp only [bytesV, List.getElem?_map, Option.map_eq_some_iff] at hv
  obtain ⟨x, hx, rfl⟩ := hv
  rw [List.getElem?_take] at hx
  split at hx
  · exact h i x hx
  · cases hx
theorem part_next {w2 w3 : World} {g bq oq j c c' : Nat} {q : List (BitVec 8)} {A' : Option Addr} (hc : ∀ j' x, q[j']? = some x → w2.cell? ⟨bq, oq + j', none⟩ = some (.int .u8 (bd x)))
    (hbg : bq ≠ g) (hbl : bq < w2.heap.size) (hcap : q.length ≤ c) (h3 : w2.grownBy w3 (some g)) (hA : c ≠ j → A' = some ⟨bq, oq + j, none⟩) (hc' : q.length - j ≤ c') : Part w3 g (.slice A' (q.length - j) c') (q.drop j) := by
  refine ⟨A', c', by rw [List.length_drop], by rw [List.length_drop]; exact hc', fun hne => ?_⟩
  have hl : 0 < (q.drop j).length := List.length_pos_iff.2 hne
  rw [List.length_drop] at hl
  refine ⟨bq, oq + j, hA (by omega), hbg, Nat.lt_of_lt_of_le hbl h3.size, fun i x hx => ?_⟩
  rw [List.getElem?_drop] at hx
  have := hc (j + i) x hx
  rw [Nat.add_assoc]
  exact h3.cell this (fun e => hbg (by injection e))
theorem msg_more {w3 : World} {g r : Nat} {m b q : List (BitVec 8)} (hb : Tail m b) (hr : m.length % 64 = r) (hq : r + q.length < 64) (hq0 : 0 < q.length)
    (hrow : Row w3 g 51 (mcells (hashTo m) (fill b q r) (m.length + q.length))) : MsgAt w3 g (m ++ q) := by
  subst hr
  rcases tail_more m b q hb hq with ⟨h1, h2, _⟩ | h
  · refine ⟨_, h1, ?_⟩
    rw [h2, List.length_append]; exact hrow
  · subst h; simp at hq0
theorem msg_full {w3 : World} {g r : Nat} {m b q : List (BitVec 8)} (hb : Tail m b) (hr : m.length % 64 = r) (hq : r + q.length = 64) (hL : (fill b q r).length = 64)
    (hrow : Row w3 g 51 (mcells (turn (hashTo m) (fill b q r)) (fill b q r) (m.length + q.length))) : MsgAt w3 g (m ++ q) := by
  subst hr
  obtain ⟨h1, h2⟩ := tail_full m b q hb hq _ hL
  refine ⟨_, h1, ?_⟩
  rw [h2, List.length_append]; exact hrow
theorem Tab.only {w w' : World} {g : Nat} (h : Tab w) (hw : w.grownBy w' (some g)) (hg : 0 < g) : Tab w' := fun i hi => hw.cell (h i hi) (fun e => Nat.ne_of_lt hg (by injection e))
set_option maxHeartbeats 1600000 in
theorem add_any (g : Nat) (M p : List (BitVec 8)) (v : Value) (w : World) (hT : Tab w) (hg : 0 < g) (hv : Part w g v p) (hM : MsgAt w g M) (hlen : (M ++ p).length < 4294967296) :
    Calls Tryd.prog 21 #[.pointer (some ⟨g, 0, none⟩), v] w fun e w' => e = .returned (.tuple #[]) ∧ MsgAt w' g (M ++ p) ∧ w.grownBy w' (some g) := by
  have HT := Lib.hid hT
  have HV := Lib.hid hv
  have HM := Lib.hid hM
  clear hT hv hM
  go_enter Tryd.func21, Tryd.ntmps21
  go_wp2
  go_loopw [1] (fun v wr => AddR w wr g v (M ++ p)) (fun v _ => sliceLen v)
  case atStart => exact ⟨M, p, rfl, HV.out, HM.out, only_refl w g⟩
  case round =>
    obtain ⟨m, q, hall, ⟨A, c, rfl, hcap, hq⟩, ⟨b, hb, hr⟩, ho⟩ := hrel
    have HA := Lib.hid hall
    have hlen2 : m.length + q.length < 4294967296 := by rw [← List.length_append, hall]; exact hlen
    clear hall
    by_cases hne : q = []
    · subst hne
      go_wp2
      go_end0
      exact ⟨rfl, by have := HA.out; rw [List.append_nil] at this; rw [← this]; exact ⟨b, hb, hr⟩, ho⟩
    · have hpos : 0 < q.length := List.length_pos_iff.2 hne
      obtain ⟨bq, oq, rfl, hbg, hbl, hqc⟩ := hq hne
      have HC := Lib.hid hqc
      have c72 := hr.get (mcells_len _ b m.length (length_hashTo m) hb.1)
      have HB := Lib.hid hb
      clear hqc hq hb
      obtain ⟨r, hre⟩ : ∃ r, m.length % 64 = r := ⟨_, rfl⟩
      have tm : (m.length : Int).tmod 64 = (r : Int) := by rw [Int.tmod_eq_emod_of_nonneg (by omega)]; omega
      have hr64 : r < 64 := by omega
      have b0 : (0 : Int) ≤ (r : Int) := by omega
      have b1 : (r : Int) ≤ 64 := by omega
      have HR := Lib.hid hre
      clear hre
      obtain ⟨j, hj⟩ : ∃ j, Nat.min q.length (64 - r) = j := ⟨_, rfl⟩
      have hj1 : j ≤ q.length := hj ▸ Nat.min_le_left q.length (64 - r)
      have hj2 : j ≤ 64 - r := hj ▸ Nat.min_le_right q.length (64 - r)
      have hj0 : 0 < j := hj ▸ Nat.lt_min.2 ⟨hpos, (show 0 < 64 - r by omega)⟩
      have nr : ¬ 64 = r := by omega
      have HJ := Lib.hid hj
      clear hj
      have HJL : Hid ((bytesV (q.take j)).length = j) := Lib.hid (by simp [bytesV]; omega)
      go_wp2_with fail
      go_still_tail 10, (by kernel_rfl)
      change wpList _ _ _ _ _ wr.drew
      refine wpList_copy_own rfl _ _ 22 22 rfl 5 Tryd.underlying22 size_u8 g (8 + r) (64 - r) (64 - r) ⟨bq, oq, none⟩ q.length c rfl rfl (mcells (hashTo m) b m.length) 51 hr.drew (bytesV (q.take j)) (by rw [HJL.out, HJ.out]) (src HC.out) (by rw [size_mcells _ _ _ (length_hashTo m) HB.out.1, HJL.out]; omega) (one_bytesV _) ?_
      have hql : (q.take j).length = j := by rw [List.length_take]; omega
      have e1 : (List.take (8 + r) (mcells (hashTo m) b m.length).toList ++ (bytesV (List.take j q) ++ List.drop (8 + r + (bytesV (List.take j q)).length) (mcells (hashTo m) b m.length).toList)).toArray = mcells (hashTo m) (fill b (q.take j) r) m.length :=
        mcells_fill (hashTo m) b m.length (length_hashTo m) HB.out.1 (q.take j) r (by rw [hql]; omega)
      have hL : (fill b (q.take j) r).length = 64 := length_fill b (q.take j) r HB.out.1 (by rw [hql]; omega)
      rw [e1, HJL.out]
      have hr2 := hr.drew.setRow (mcells (hashTo m) (fill b (q.take j) r) m.length)
      have ho2 := only_setRow (only_drew ho) (mcells (hashTo m) (fill b (q.take j) r) m.length)
      have hbl2 : bq < (wr.drew.setRow g (mcells (hashTo m) (fill b (q.take j) r) m.length)).heap.size := by rw [size_setRow]; exact hbl
      have HC2 : Hid (∀ j' x, q[j']? = some x → (wr.drew.setRow g (mcells (hashTo m) (fill b (q.take j) r) m.length)).cell? ⟨bq, oq + j', none⟩ = some (.int .u8 (bd x))) :=
        Lib.hid fun j' x hx => (cell_setRow_other wr.drew g _ ⟨bq, oq + j', none⟩ hbg).trans (HC.out j' x hx)
      have HL := Lib.hid hL
      have HQ := Lib.hid hql
      clear e1 hL hql hbl HC hr ho c72 tm
      generalize wr.drew.setRow g (mcells (hashTo m) (fill b (q.take j) r) m.length) = w2 at *
      have c72 := hr2.get (mcells_len _ _ m.length (length_hashTo m) HL.out)
      have f72 := hr2.free 72
      have hr3 := hr2.put 72 (.int .u64 ((m.length + j : Nat) : Int))
      rw [mcells_setLen _ _ _ _ (length_hashTo m) HL.out, Int.natCast_add] at hr3
      have ho3 := only_setCell (i := 72) ho2 (.int .u64 ((m.length : Int) + (j : Int)))
      have HP : Hid (∀ (w3 : World) A' c', w2.grownBy w3 (some g) → (c ≠ j → A' = some ⟨bq, oq + j, none⟩) → q.length - j ≤ c' → Part w3 g (.slice A' (q.length - j) c') (q.drop j)) :=
        Lib.hid fun w3 A' c' h3 hA hc' => part_next HC2.out hbg hbl2 hcap h3 hA hc'
      clear hr2 HC2 hbl2 HJ HJL
      by_cases hfull : r + j = 64
      · have eb : (((m.length : Int) + (j : Int)) % 64 == 0) = true := by rw [beq_iff_eq]; have := HR.out; omega
        by_cases hcj : c = j
        all_goals
          go_wp2_with fail
          have HF := Lib.hid hfull
          clear hfull eb c72 f72
          have hs3 := only_setCell (i := 72) (only_refl w2 g) (.int .u64 ((m.length : Int) + (j : Int)))
          generalize w2.setCell ⟨g, 72, none⟩ (.int .u64 ((m.length : Int) + (j : Int))) = w3 at *
          have HTD : Hid (Tab w3.drew) := Lib.hid (Tab.only HT.out (only_drew ho3) hg)
          refine wp_region_any (by kernel_rfl) ?_
          change wpAny _ _ _ _ _ _ _ (World.drew _)
          refine wpAny_take (i := 0) (oi := { dst := some 37, op := _, type := _, pos := _, after := _, guard := none }) (v := .pointer (some ⟨g, 0, none⟩)) rfl (by kernel_rfl) (by kernel_rfl) (by kernel_rfl) (fun _ _ _ h => h) (Or.inl ⟨by rfl, fun _ => by go_simp⟩) ?_
          refine wpAny_take (i := 1) (oi := { dst := some 38, op := _, type := _, pos := _, after := _, guard := none }) (v := .pointer (some ⟨g, 0, none⟩)) rfl (by kernel_rfl) (by kernel_rfl) (by kernel_rfl) (fun _ _ _ h => h) (Or.inl ⟨by rfl, fun _ => by go_simp⟩) ?_
          refine wpAny_take (i := 2) (oi := { dst := some 39, op := _, type := _, pos := _, after := _, guard := none }) (v := .pointer (some ⟨g, 0, none⟩)) rfl (by kernel_rfl) (by kernel_rfl) (by kernel_rfl) (fun _ _ _ h => h) (Or.inl ⟨by rfl, fun _ => by go_simp⟩) ?_
          refine wpAny_take (i := 3) (oi := { dst := some 40, op := _, type := _, pos := _, after := _, guard := none }) (v := .pointer (some ⟨g, 0, none⟩)) rfl (by kernel_rfl) (by kernel_rfl) (by kernel_rfl) (fun _ _ _ h => h) (Or.inl ⟨by rfl, fun _ => by go_simp⟩) ?_
          refine wpAny_take (i := 5) (oi := { dst := some 42, op := _, type := _, pos := _, after := _, guard := none }) (v := .pointer (some ⟨g, 0, none⟩)) rfl (by kernel_rfl) (by kernel_rfl) (by kernel_rfl) (fun _ _ _ h => h) (Or.inl ⟨by rfl, fun _ => by go_simp⟩) ?_
          refine wpAny_take (i := 6) (oi := { dst := some 43, op := _, type := _, pos := _, after := _, guard := none }) (v := .pointer (some ⟨g, 0, none⟩)) rfl (by kernel_rfl) (by kernel_rfl) (by kernel_rfl) (fun _ _ _ h => h) (Or.inl ⟨by rfl, fun _ => by go_simp⟩) ?_
          refine wpAny_take (i := 7) (oi := { dst := some 44, op := _, type := _, pos := _, after := _, guard := none }) (v := .pointer (some ⟨g, 8, none⟩)) rfl (by kernel_rfl) (by kernel_rfl) (by kernel_rfl) (fun _ _ _ h => h) (Or.inl ⟨by rfl, fun _ => by go_simp⟩) ?_
          simp only [Act.put, List.setIfInBounds_toArray, List.set_cons_succ, List.set_cons_zero]
          refine wpAny_ready (rs := [4, 8]) (by kernel_rfl) (by simp) ?_
          refine AllReady.cons (o := { dst := some 41, op := .load 46 (.tmp 40), type := 46, pos := _, after := _, guard := none }) rfl (fun K hK => ?_) (AllReady.cons (o := { dst := some 45, op := .load 48 (.tmp 44), type := 48, pos := _, after := _, guard := none }) rfl (fun K hK => ?_) AllReady.nil)
          · refine step_load_mid rfl 46 _ rfl g 0 rfl (ws (hashTo m)).toList _ (range_h hr3.drew) Tryd.underlying46 rfl (by rw [len_ws, length_hashTo]; exact size_h) ?_
            refine hK _ _ ?_
            clear hK K
            refine wpAny_ready (rs := [8]) (by kernel_rfl) (by simp) ?_
            refine AllReady.cons (o := { dst := some 45, op := .load 48 (.tmp 44), type := 48, pos := _, after := _, guard := none }) rfl (fun K hK => ?_) AllReady.nil
            refine step_load_mid rfl 48 _ rfl g 8 rfl (bs (fill b (q.take j) r)).toList _ (range_b (length_hashTo m) hr3.drew) Tryd.underlying48 rfl (by rw [len_bs, HL.out]; exact size_b) ?_
            refine hK _ _ ?_
            clear hK K
            refine wpAny_ready (rs := [9]) (by kernel_rfl) (by simp) ?_
            refine AllReady.cons (o := { dst := some 46, op := .call { callee := .value (.func 27), args := #[.tmp 41, .tmp 45], argTypes := #[46, 48] }, type := 46, pos := _, after := _, guard := none }) rfl (fun K hK => ?_) AllReady.nil
            go_simp
            refine (turn_any (hashTo m) (fill b (q.take j) r) (length_hashTo m) HL.out _ HTD.out).mono ?_
            rintro e w4 ⟨rfl, hb4⟩
            refine hK _ _ ?_
            clear hK K
            refine wpAny_take (i := 10) (oi := { dst := some 47, op := _, type := _, pos := _, after := _, guard := none }) (v := .pointer (some ⟨g, 0, none⟩)) rfl (by kernel_rfl) (by kernel_rfl) (by kernel_rfl) (fun _ _ _ h => h) (Or.inl ⟨by rfl, fun _ => by go_simp⟩) ?_
            refine wpAny_take (i := 11) (oi := { dst := some 48, op := _, type := _, pos := _, after := _, guard := none }) (v := .pointer (some ⟨g, 0, none⟩)) rfl (by kernel_rfl) (by kernel_rfl) (by kernel_rfl) (fun _ _ _ h => h) (Or.inl ⟨by rfl, fun _ => by go_simp⟩) ?_
            simp only [Act.put, List.setIfInBounds_toArray, List.set_cons_succ, List.set_cons_zero]
            refine wpAny_ready (rs := [12]) (by kernel_rfl) (by simp) ?_
            refine AllReady.cons (o := { dst := none, op := .store 46 (.tmp 48) (.tmp 46), type := _, pos := _, after := _, guard := none }) rfl (fun K hK => ?_) AllReady.nil
            refine step_store_mid rfl 46 _ _ rfl g 0 (ws (turn (hashTo m) (fill b (q.take j) r))) rfl rfl (by rw [size_ws, length_turn, length_hashTo]; exact there_h (length_hashTo m) HL.out (hr3.drew.call hb4)) (by rw [size_ws, length_turn, length_hashTo]; exact size_h) (one_ws _) ?_
            refine hK _ _ ?_
            clear hK K
            refine wpAny_done (by kernel_rfl) ?_ _
            go_wp2_with fail
            have hr5 := Row.putH (length_hashTo m) (h' := turn (hashTo m) (fill b (q.take j) r)) (by rw [length_turn, length_hashTo]) (hr3.drew.call hb4)
            have ho5 := only_setCells (ws (turn (hashTo m) (fill b (q.take j) r))).toList 0 (only_call (only_drew ho3) hb4)
            have hs5 := only_setCells (ws (turn (hashTo m) (fill b (q.take j) r))).toList 0 (only_call (only_drew hs3) hb4)
            go_roundw
            case rel =>
              (repeat apply Exists.intro)
              refine ⟨⟨m ++ q.take j, q.drop j, by rw [List.append_assoc, List.take_append_drop]; exact HA.out, HP.out _ _ _ hs5 (fun hne => by first | rfl | exact absurd hcj hne) (by omega), ?_, ho5⟩, rfl⟩
              exact msg_full HB.out HR.out (by rw [HQ.out]; exact HF.out) HL.out (by rw [HQ.out]; exact hr5)
            case measure => show q.length - j < q.length; omega
          · refine step_load_mid rfl 48 _ rfl g 8 rfl (bs (fill b (q.take j) r)).toList _ (range_b (length_hashTo m) hr3.drew) Tryd.underlying48 rfl (by rw [len_bs, HL.out]; exact size_b) ?_
            refine hK _ _ ?_
            clear hK K
            refine wpAny_ready (rs := [4]) (by kernel_rfl) (by simp) ?_
            refine AllReady.cons (o := { dst := some 41, op := .load 46 (.tmp 40), type := 46, pos := _, after := _, guard := none }) rfl (fun K hK => ?_) AllReady.nil
            refine step_load_mid rfl 46 _ rfl g 0 rfl (ws (hashTo m)).toList _ (range_h hr3.drew) Tryd.underlying46 rfl (by rw [len_ws, length_hashTo]; exact size_h) ?_
            refine hK _ _ ?_
            clear hK K
            refine wpAny_ready (rs := [9]) (by kernel_rfl) (by simp) ?_
            refine AllReady.cons (o := { dst := some 46, op := .call { callee := .value (.func 27), args := #[.tmp 41, .tmp 45], argTypes := #[46, 48] }, type := 46, pos := _, after := _, guard := none }) rfl (fun K hK => ?_) AllReady.nil
            go_simp
            refine (turn_any (hashTo m) (fill b (q.take j) r) (length_hashTo m) HL.out _ HTD.out).mono ?_
            rintro e w4 ⟨rfl, hb4⟩
            refine hK _ _ ?_
            clear hK K
            refine wpAny_take (i := 10) (oi := { dst := some 47, op := _, type := _, pos := _, after := _, guard := none }) (v := .pointer (some ⟨g, 0, none⟩)) rfl (by kernel_rfl) (by kernel_rfl) (by kernel_rfl) (fun _ _ _ h => h) (Or.inl ⟨by rfl, fun _ => by go_simp⟩) ?_
            refine wpAny_take (i := 11) (oi := { dst := some 48, op := _, type := _, pos := _, after := _, guard := none }) (v := .pointer (some ⟨g, 0, none⟩)) rfl (by kernel_rfl) (by kernel_rfl) (by kernel_rfl) (fun _ _ _ h => h) (Or.inl ⟨by rfl, fun _ => by go_simp⟩) ?_
            simp only [Act.put, List.setIfInBounds_toArray, List.set_cons_succ, List.set_cons_zero]
            refine wpAny_ready (rs := [12]) (by kernel_rfl) (by simp) ?_
            refine AllReady.cons (o := { dst := none, op := .store 46 (.tmp 48) (.tmp 46), type := _, pos := _, after := _, guard := none }) rfl (fun K hK => ?_) AllReady.nil
            refine step_store_mid rfl 46 _ _ rfl g 0 (ws (turn (hashTo m) (fill b (q.take j) r))) rfl rfl (by rw [size_ws, length_turn, length_hashTo]; exact there_h (length_hashTo m) HL.out (hr3.drew.call hb4)) (by rw [size_ws, length_turn, length_hashTo]; exact size_h) (one_ws _) ?_
            refine hK _ _ ?_
            clear hK K
            refine wpAny_done (by kernel_rfl) ?_ _
            go_wp2_with fail
            have hr5 := Row.putH (length_hashTo m) (h' := turn (hashTo m) (fill b (q.take j) r)) (by rw [length_turn, length_hashTo]) (hr3.drew.call hb4)
            have ho5 := only_setCells (ws (turn (hashTo m) (fill b (q.take j) r))).toList 0 (only_call (only_drew ho3) hb4)
            have hs5 := only_setCells (ws (turn (hashTo m) (fill b (q.take j) r))).toList 0 (only_call (only_drew hs3) hb4)
            go_roundw
            case rel =>
              (repeat apply Exists.intro)
              refine ⟨⟨m ++ q.take j, q.drop j, by rw [List.append_assoc, List.take_append_drop]; exact HA.out, HP.out _ _ _ hs5 (fun hne => by first | rfl | exact absurd hcj hne) (by omega), ?_, ho5⟩, rfl⟩
              exact msg_full HB.out HR.out (by rw [HQ.out]; exact HF.out) HL.out (by rw [HQ.out]; exact hr5)
            case measure => show q.length - j < q.length; omega
      · have eb : (((m.length : Int) + (j : Int)) % 64 == 0) = false := by rw [beq_eq_false_iff_ne]; have := HR.out; omega
        go_wp2_with fail
        refine ⟨⟨m ++ q.take j, q.drop j, by rw [List.append_assoc, List.take_append_drop]; exact HA.out, ?_, ?_, ho3⟩, ?_⟩
        · exact HP.out _ _ _ (only_setCell (only_refl _ _) _) (fun hne => if_neg hne) (by omega)
        · exact msg_more HB.out HR.out (by rw [HQ.out]; omega) (by rw [HQ.out]; exact hj0) (by rw [HQ.out]; exact hr3)
        · show q.length - j < q.length; omega
end Go.Proofs.YtnfceejmkcohnaaDoor
