import Derived.Test.YthnhgpippdadkaaDoorMod
import Derived.Deep.MidRow
import Derived.Maps.RangeWalk
import Derived.Test.YthnhgpippdadkaaDoorApp
import Derived.Test.YthnhgpippdadkaaDoorPads
namespace Go.Proofs.YthnhgpippdadkaaDoor
open Go Go.RowKit
theorem parts1 {w : World} {v : Value} {q : List (BitVec 8)} (h : Slice w v q) : Parts (w.alloc (.cells #[v] 30)) (.slice (some ⟨w.heap.size, 0, none⟩) 1 1) [q] := by
  have r := Row.fresh w 30 #[v]
  refine ⟨_, 1, rfl, fun _ => ⟨w.heap.size, 0, rfl, r.lt, fun k p hp => ?_⟩⟩
  match k, hp with
  | 0, hp => obtain rfl : q = p := by simpa using hp
             exact ⟨v, r.get rfl, h.below ((Below.refl _ _).alloc (Nat.le_refl _) _) (Nat.le_refl _)⟩
theorem parts3 {w : World} {a b c : Value} {p q r : List (BitVec 8)} (ha : Slice w a p) (hb : Slice w b q) (hc : Slice w c r) : Parts (w.alloc (.cells #[a, b, c] 30)) (.slice (some ⟨w.heap.size, 0, none⟩) 3 3) [p, q, r] := by
  have t := Row.fresh w 30 #[a, b, c]
  have hx := (Below.refl w.heap.size w).alloc (Nat.le_refl _) (.cells #[a, b, c] 30)
  refine ⟨_, 3, rfl, fun _ => ⟨w.heap.size, 0, rfl, t.lt, fun k s hs => ?_⟩⟩
  match k, hs with
  | 0, hs => obtain rfl : p = s := by simpa using hs
             exact ⟨a, t.get rfl, ha.below hx (Nat.le_refl _)⟩
  | 1, hs => obtain rfl : q = s := by simpa using hs
             exact ⟨b, t.get rfl, hb.below hx (Nat.le_refl _)⟩
  | 2, hs => obtain rfl : r = s := by simpa using hs
             exact ⟨c, t.get rfl, hc.below hx (Nat.le_refl _)⟩
theorem slice_nil (w : World) : Slice w (.slice none 0 0) [] := ⟨none, 0, rfl, by simp, fun h => absurd rfl h⟩
theorem Slice.take {w : World} {A : Option Addr} {c k : Nat} {q : List (BitVec 8)} (h : Slice w (.slice A q.length c) q) (hk : k ≤ q.length) : Slice w (.slice A k c) (q.take k) := by
  obtain ⟨A', c', h1, h2, h3⟩ := h
  injection h1 with h1 _ h1c
  subst h1 h1c
  refine ⟨A, c, by rw [List.length_take, Nat.min_eq_left hk], by rw [List.length_take]; omega, fun hne => ?_⟩
  obtain ⟨b, o, h4, h5, h6⟩ := h3 (by intro e; subst e; simp at hne)
  refine ⟨b, o, h4, h5, fun j x hx => h6 j x ?_⟩
  rw [List.getElem?_take] at hx
  split at hx
  · exact hx
  · cases hx
theorem Slice.drop {w : World} {A : Option Addr} {c k : Nat} {q : List (BitVec 8)} (h : Slice w (.slice A q.length c) q) (hk : k ≤ q.length) : Slice w (.slice (if c = k then A else A.map (·.add k)) (q.length - k) (c - k)) (q.drop k) := by
  obtain ⟨A', c', h1, h2, h3⟩ := h
  injection h1 with h1 _ h1c
  subst h1 h1c
  refine ⟨_, c - k, by rw [List.length_drop], by rw [List.length_drop]; omega, fun hne => ?_⟩
  have hl : 0 < (q.drop k).length := List.length_pos_iff.2 hne
  rw [List.length_drop] at hl
  obtain ⟨b, o, h4, h5, h6⟩ := h3 (by intro e; subst e; simp at hne)
  subst h4
  refine ⟨b, o + k, ?_, h5, fun j x hx => ?_⟩
  · rw [if_neg (by omega)]; simp [Addr.add_mid]
  · rw [List.getElem?_drop] at hx
    rw [Nat.add_assoc]; exact h6 _ x hx
theorem sum3 {w : World} {A : Option Addr} {c k : Nat} {q : List (BitVec 8)} (hT : Tab w) (h : Slice w (.slice A q.length c) q) (hk : k ≤ q.length) (hq : q.length < 2147483648) :
    Calls Tryd.prog 10 #[.slice (some ⟨w.heap.size, 0, none⟩) 3 3] (w.alloc (.cells #[.slice A k c, .slice none 0 0, .slice (if c = k then A else A.map (·.add k)) (q.length - k) (c - k)] 30)).drew fun e w' => e = .returned (.agg (bs (sha q))) ∧ Below w.heap.size w w' := by
  have hb := ((Below.refl w.heap.size w).alloc (Nat.le_refl _) (.cells #[.slice A k c, .slice none 0 0, .slice (if c = k then A else A.map (·.add k)) (q.length - k) (c - k)] 30)).drew
  have e : ([q.take k, [], q.drop k] : List (List (BitVec 8))).flatten = q := by simp
  have hc := sum_any [q.take k, [], q.drop k] (.slice (some ⟨w.heap.size, 0, none⟩) 3 3) (w.alloc (.cells #[.slice A k c, .slice none 0 0, .slice (if c = k then A else A.map (·.add k)) (q.length - k) (c - k)] 30)).drew (hT.below hb hT.pos) (parts3 (h.take hk) (slice_nil w) (h.drop hk)) (by simp) (by rw [e]; exact hq)
  rw [e] at hc
  exact hc.mono fun _ w' ⟨h1, h2⟩ => ⟨h1, hb.trans (h2.mono (by show w.heap.size ≤ (w.alloc _).heap.size; simp))⟩
theorem all_form {w : World} {base n : Nat} {v : Value} {q L : List (BitVec 8)} (h : w.ownsRow base 5 1 v n (bytesV q ++ bytesV (pad q.length))) (hL : q ++ pad q.length = L) :
    ∃ g cap, v = .slice (some ⟨g, 0, none⟩) L.length cap ∧ base ≤ g ∧ g < w.heap.size ∧ L.length ≤ cap ∧ ∀ j x, L[j]? = some x → w.cell? ⟨g, j, none⟩ = some (.int .u8 (bd x)) := by
  subst hL
  have e : bytesV q ++ bytesV (pad q.length) = bytesV (q ++ pad q.length) := by simp [bytesV]
  rw [e] at h
  exact owns_form h (by rw [List.length_append, length_pad]; have := padSize_lo q.length; omega)
theorem range_call {w w' : World} {g : Nat} {cs : List Value} (h : w.rangeAt g 0 cs) (hb : Below w.heap.size w w') : w'.rangeAt g 0 cs := fun j v hv => by
  have hc := h j v hv
  exact (hb.cell (p := ⟨g, 0 + j, none⟩) (World.block_lt_of_cell? w _ hc)).trans hc
def PR (w wr : World) (gh g g6 : Nat) (L D : List (BitVec 8)) (k : Nat) : Prop :=
  Row wr gh 33 (ws (turns L k)) ∧ Row wr g6 27 (bs D) ∧ Below w.heap.size w wr ∧ (∀ j x, L[j]? = some x → wr.cell? ⟨g, j, none⟩ = some (.int .u8 (bd x))) ∧ g < wr.heap.size
theorem PR.call {w wr w' : World} {gh g g6 k : Nat} {L D : List (BitVec 8)} (h : PR w wr gh g g6 L D k) (hb : Below wr.heap.size wr w') : PR w w' gh g g6 L D k := by
  obtain ⟨h1, h2, h3, h4, h5⟩ := h
  exact ⟨h1.call hb, h2.call hb, h3.trans (hb.mono h3.size), fun j x hx => (hb.cell (p := ⟨g, j, none⟩) h5).trans (h4 j x hx), Nat.lt_of_lt_of_le h5 hb.size⟩
theorem PR.setRow {w wx : World} {gh g g6 gy k : Nat} {L D : List (BitVec 8)} (h : PR w wx gh g g6 L D k) (h1 : gh ≠ gy) (h2 : g ≠ gy) (h3 : g6 ≠ gy) (h4 : w.heap.size ≤ gy) (cs : Array Value) : PR w (wx.drew.setRow gy cs) gh g g6 L D k := by
  obtain ⟨a1, a2, a3, a4, a5⟩ := h
  exact ⟨a1.drew.setRow_far h1 cs, a2.drew.setRow_far h3 cs, below_setRow a3.drew h4 cs, fun j x hx => (cell_setRow_other wx.drew gy cs ⟨g, j, none⟩ h2).trans (a4 j x hx), by rw [size_setRow]; exact a5⟩
theorem PR.turned {w w8 : World} {gh g g6 k : Nat} {L D : List (BitVec 8)} (h : PR w w8 gh g g6 L D k) (h1 : gh ≠ g) (h3 : gh ≠ g6) (h4 : w.heap.size ≤ gh) : PR w (w8.setRow gh (ws (turns L (k + 1)))) gh g g6 L D (k + 1) := by
  obtain ⟨a1, a2, a3, a4, a5⟩ := h
  exact ⟨a1.setRow _, a2.setRow_far (Ne.symm h3) _, below_setRow a3 h4 _, fun j x hx => (cell_setRow_other w8 gh _ ⟨g, j, none⟩ (Ne.symm h1)).trans (a4 j x hx), by rw [size_setRow]; exact a5⟩
/- a hash's first i bytes, and zeros -/
def dpart (H : List (BitVec 32)) (i : Nat) : List (BitVec 8) := (dig H).take i ++ zer (32 - i)
theorem dpart_zero (H : List (BitVec 32)) : dpart H 0 = zer 32 := by simp [dpart]
theorem dpart_all (H : List (BitVec 32)) (h : H.length = 8) : dpart H 32 = dig H := by
  rw [dpart, List.take_of_length_le (by rw [length_dig, h]; omega)]; simp [zer]
theorem length_dpart (H : List (BitVec 32)) (i : Nat) (h : H.length = 8) (hi : i ≤ 32) : (dpart H i).length = 32 := by
  simp [dpart, length_dig, h, zer]; omega
theorem dig_get (H : List (BitVec 32)) (a b : Nat) (ha : a < H.length) (hb : b < 4) : (dig H)[4 * a + b]? = some ((H.getD a 0 >>> (24 - 8 * b)).setWidth 8) := by
  induction H generalizing a with
  | nil => simp at ha
  | cons x r ih =>
    have e : dig (x :: r) = four x ++ dig r := by simp [dig]
    cases a with
    | zero =>
      rw [e, List.getElem?_append_left (by simp [four]; omega)]
      match b, hb with
      | 0, _ => rfl
      | 1, _ => rfl
      | 2, _ => rfl
      | 3, _ => simp [four]
    | succ a =>
      rw [e, List.getElem?_append_right (by simp [four]; omega), show 4 * (a + 1) + b - (four x).length = 4 * a + b by simp [four]; omega, ih a (by simpa using ha)]
      simp
theorem dpart_set (H : List (BitVec 32)) (a b : Nat) (hl : H.length = 8) (ha : a < 8) (hb : b < 4) : (dpart H (4 * a + b)).set (4 * a + b) ((H.getD a 0 >>> (24 - 8 * b)).setWidth 8) = dpart H (4 * a + b + 1) := by
  have hd := dig_get H a b (by omega) hb
  have hlen : (dig H).length = 32 := by rw [length_dig, hl]
  have h1 : ((dig H).take (4 * a + b)).length = 4 * a + b := by rw [List.length_take, hlen]; omega
  have hz : zer (32 - (4 * a + b)) = 0 :: zer (32 - (4 * a + b + 1)) := by
    rw [show 32 - (4 * a + b) = (32 - (4 * a + b + 1)) + 1 by omega]; simp [zer, List.replicate_succ]
  have he : (dig H)[4 * a + b]'(by omega) = (H.getD a 0 >>> (24 - 8 * b)).setWidth 8 := (List.getElem?_eq_some_iff.1 hd).2
  rw [dpart, dpart, List.set_append_right _ _ (by omega), h1, Nat.sub_self, hz, List.set_cons_zero, List.take_succ_eq_append_getElem (by omega), he, List.append_assoc]
  rfl
theorem d_step {w wz : World} {gd gh g6 i : Nat} {H : List (BitVec 32)} {D : List (BitVec 8)} (hl : H.length = 8) (hi : i < 32) (rd : Row wz gd 27 (bs (dpart H i))) (hr : Row wz gh 33 (ws H)) (hr6 : Row wz g6 27 (bs D)) (hb : Below w.heap.size w wz)
    (h1 : gh ≠ gd) (h2 : g6 ≠ gd) (h3 : w.heap.size ≤ gd) :
    Row (wz.setCell ⟨gd, i, none⟩ (.int .u8 (wd (H.getD (i / 4) 0) / 2 ^ (24 - 8 * (i % 4)) % 256))) gd 27 (bs (dpart H (i + 1))) ∧ Row (wz.setCell ⟨gd, i, none⟩ (.int .u8 (wd (H.getD (i / 4) 0) / 2 ^ (24 - 8 * (i % 4)) % 256))) gh 33 (ws H) ∧
      Row (wz.setCell ⟨gd, i, none⟩ (.int .u8 (wd (H.getD (i / 4) 0) / 2 ^ (24 - 8 * (i % 4)) % 256))) g6 27 (bs D) ∧ Below w.heap.size w (wz.setCell ⟨gd, i, none⟩ (.int .u8 (wd (H.getD (i / 4) 0) / 2 ^ (24 - 8 * (i % 4)) % 256))) := by
  have e : wd (H.getD (i / 4) 0) / 2 ^ (24 - 8 * (i % 4)) % 256 = bd ((H.getD (i / 4) 0 >>> (24 - 8 * (i % 4))).setWidth 8) := by
    rw [shr_wd, ← low_wd, IntKind.wrap_u8']
  rw [e]
  refine ⟨?_, hr.far h1 _, hr6.far h2 _, hb.setCell h3 _⟩
  have h := rd.put i (.int .u8 (bd ((H.getD (i / 4) 0 >>> (24 - 8 * (i % 4))).setWidth 8)))
  have hs := dpart_set H (i / 4) (i % 4) hl (by omega) (by omega)
  rw [show 4 * (i / 4) + i % 4 = i by omega] at hs
  rw [set_bs, hs] at h
  exact h
theorem src_at {w : World} {g o : Nat} {L : List (BitVec 8)} (h : ∀ j x, L[j]? = some x → w.cell? ⟨g, j, none⟩ = some (.int .u8 (bd x))) :
    ∀ j x, (L.drop o)[j]? = some x → w.cell? ⟨g, o + j, none⟩ = some (.int .u8 (bd x)) := fun j x hx => by
  rw [List.getElem?_drop] at hx; exact h _ x hx
theorem copy_block (L : List (BitVec 8)) (t : Nat) (h : 64 * t + 64 ≤ L.length) :
    ((bs (zer 64)).toList.take 0 ++ (bytesV ((L.drop (64 * t)).take 64) ++ (bs (zer 64)).toList.drop (0 + (bytesV ((L.drop (64 * t)).take 64)).length))).toArray = bs ((L.drop (64 * t)).take 64) := by
  have e : (bytesV ((L.drop (64 * t)).take 64)).length = 64 := by simp [bytesV]; omega
  have hd : (bs (zer 64)).toList.drop (0 + 64) = [] := rfl
  rw [e, hd, List.take_zero, List.nil_append, List.append_nil]
  rfl
set_option maxHeartbeats 800000 in
theorem parts_any (A : Option Addr) (c : Nat) (q : List (BitVec 8)) (cut : Int) (w : World) (hT : Tab w) (hq : Slice w (.slice A q.length c) q) (hA : A = none → c = 0) (hql : q.length ≤ maxLen) :
    Calls Tryd.prog 5 #[.slice A q.length c, .int .i64 cut] w fun e w' => e = .returned (.bool true) ∧ Below w.heap.size w w' := by
  unfold maxLen at hql
  have HT := Lib.hid hT
  have HQ := Lib.hid hq
  have HA := Lib.hid hA
  clear hT hq hA
  by_cases hbig : 3000 < q.length
  · go_enter Tryd.func5, Tryd.ntmps5
    go_wp2_with fail
    refine (wakes_any w HT.out).mono ?_
    rintro e w1 ⟨rfl, hb⟩
    go_wp2_with fail
    go_ret
    exact ⟨rfl, hb⟩
  · have hk := modK_lt cut (q.length + 1) (by omega)
    have d0 : decide ((3000 : Int) < (q.length : Int)) = false := by simp; omega
    go_enter Tryd.func5, Tryd.ntmps5
    go_wp2_with fail
    refine (mod_at cut _ (q.length + 1) w (by omega) (by omega) (by omega)).mono ?_
    rintro e w0 ⟨rfl, rfl⟩
    generalize modK cut (q.length + 1) = k at *
    have hk2 : (k : Int) ≤ (q.length : Int) := by omega
    have hk0 : (0 : Int) ≤ (k : Int) := by omega
    go_wp2_with fail
    refine (sum_any [q] _ _ (HT.out.below ((Below.refl _ _).alloc (Nat.le_refl _) _) HT.out.pos) (parts1 HQ.out) (by simp) (by simp; omega)).mono ?_
    rintro e w1 ⟨rfl, hb1⟩
    rw [show ([q] : List (List (BitVec 8))).flatten = q by simp]
    have hb : Below w.heap.size w w1 := ((Below.refl _ _).alloc (Nat.le_refl _) _).trans (hb1.mono (by simp))
    have HD : Hid ((sha q).length = 32) := Lib.hid (by rw [sha, length_dig, length_hashTo])
    have HDE : Hid (sha q = dig (hashTo (q ++ pad q.length))) := Lib.hid rfl
    clear hb1
    go_wp2_with (first | (refine wpList_store_row rfl 27 _ _ rfl w1.heap.size (bs (sha q)) rfl rfl 27 _ (Row.fresh _ _ _) (by rw [size_bs, HD.out]; exact size_d) (by rw [size_bs, HD.out]; rfl) (one_bs _) ?_; rw [World.setRow_alloc_new]))
    have hcap : q.length ≤ c := by obtain ⟨_, _, h1, h2, _⟩ := HQ.out; injection h1 with _ _ h1; omega
    go_frame
    have hq2 : Slice (w1.alloc (.cells (bs (sha q)) 27)) (.slice A q.length c) q := (HQ.out.below hb (Nat.le_refl _)).below ((Below.refl _ _).alloc (Nat.le_refl _) _) (Nat.le_refl _)
    have r6 := Row.fresh w1 27 (bs (sha q))
    have hb2 : Below w.heap.size w (w1.alloc (.cells (bs (sha q)) 27)) := hb.alloc hb.size _
    clear hb
    generalize w1.alloc (.cells (bs (sha q)) 27) = w2 at *
    generalize w1.heap.size = g6 at *
    have rg : w2.rangeAt g6 0 (bs (sha q)).toList := fun j v hv => by rw [Nat.zero_add, r6.cell]; simpa using hv
    have HT2 := Lib.hid (HT.out.below hb2 HT.out.pos)
    have HQ2 := Lib.hid hq2
    have u27 := Tryd.underlying27
    have s27 : (Tryd.prog.info? 27).map (·.size) = some (bs (sha q)).toList.length := by rw [len_bs, HD.out]; exact size_d
    have l27 : (bs (sha q)).toList.length = 32 := by rw [len_bs, HD.out]
    have o27 : ∀ v ∈ (bs (sha q)).toList, v.oneCell' = true := fun v hv => by simp only [bs, List.mem_map] at hv; obtain ⟨x, _, rfl⟩ := hv; rfl
    have hkc : (k : Int) ≤ (c : Int) := by omega
    have hlc : (q.length : Int) ≤ (c : Int) := by omega
    have heq := eql_dig (sha q) HD.out
    have HR6 := Lib.hid r6
    clear hq2 r6
    obtain ⟨A', hA'⟩ : ∃ A', (if c = k then A else A.map (·.add k)) = A' := ⟨_, rfl⟩
    have HC : Hid (Calls Tryd.prog 10 #[.slice (some ⟨w2.heap.size, 0, none⟩) 3 3] (w2.alloc (.cells #[.slice A k c, .slice none 0 0, .slice A' (q.length - k) (c - k)] 30)).drew fun e w' => e = .returned (.agg (bs (sha q))) ∧ Below w2.heap.size w2 w') :=
      Lib.hid (by rw [← hA']; exact sum3 HT2.out HQ2.out (by omega) (by omega))
    go_region_held3 (fun W => W.rangeAt g6 0 (bs (sha q)).toList) (first | exact rg | exact range_call rg hb3 | go_keep_ranges)
      (first | (go_at_call 10; refine HC.out.mono ?_; rintro e w3 ⟨rfl, hb3⟩))
    have hb23 : Below w.heap.size w w3 := hb2.trans (hb3.mono hb2.size)
    have r63 := HR6.out.call hb3
    have hq3 : Slice w3 (.slice A q.length c) q := HQ.out.below hb23 (Nat.le_refl _)
    have hq3' := hq3.below ((Below.refl w3.heap.size w3).alloc (Nat.le_refl _) (.cells #[] 5)) (Nat.le_refl _)
    clear rg u27 s27 l27 o27 hA' HC HT2 HQ2 HR6 hb2 hb3 hq3
    go_wp2_with (first | (at_builtin; refine wpList_append_slice rfl (.tmp 35) (.tmp 36) rfl w3.heap.size _ 0 [] rfl (own_empty w3) A q.length c q rfl hq3' HA.out (by omega) (by simp) ?_; intro v1 w4 own1 hb4))
    simp only [Nat.zero_add, List.nil_append] at own1
    refine (pad_any q.length (by omega) w4).mono ?_
    rintro e w5 ⟨rfl, rp, hb5⟩
    have hpz := padSize_hi q.length
    have hpw := padSize_whole q.length
    have HP : Hid (Slice w5 (.slice (some ⟨w4.heap.size, 0, none⟩) (padSize q.length) (padSize q.length)) (pad q.length)) := Lib.hid (by
      have h := row_slice rp (c := padSize q.length) (by rw [length_pad]; exact Nat.le_refl _)
      rw [length_pad] at h; exact h)
    have own5 := owns_call own1 hb5
    have hb35 : Below w3.heap.size w3 w5 := (((Below.refl w3.heap.size w3).alloc (Nat.le_refl _) _).trans hb4).trans (hb5.mono (Nat.le_trans (by simp) hb4.size))
    clear own1 hb4 hb5 rp hq3'
    obtain ⟨L, hL⟩ : ∃ L, q ++ pad q.length = L := ⟨_, rfl⟩
    have HL := Lib.hid hL
    clear hL
    have hLn : L.length = q.length + padSize q.length := by rw [← HL.out, List.length_append, length_pad]
    have hL64 : L.length % 64 = 0 := by rw [hLn]; exact hpw
    have hLhi : L.length ≤ 3072 := by omega
    have hLmod : ((L.length : Int) % 64 != 0) = false := by rw [bne_eq_false_iff_eq]; omega
    have HL64 := Lib.hid hL64
    clear hLn hL64 hpw
    go_wp2_with (first | (at_builtin; refine wpList_append_slice rfl (.tmp 37) (.tmp 41) rfl w3.heap.size v1 q.length (bytesV q) rfl own5 (some ⟨w4.heap.size, 0, none⟩) (padSize q.length) (padSize q.length) (pad q.length) rfl HP.out (fun h => by cases h) (by omega) hb35.size ?_; intro v2 w6 own6 hb6; obtain ⟨g, cap, rfl, hg, hgl, hcap2, hcell⟩ := all_form own6 HL.out; clear own6))
    have hb06 : Below w.heap.size w w6 := (hb23.trans (hb35.mono hb23.size)).trans (hb6.mono hb23.size)
    have r66 := (r63.below hb35 r63.lt).below hb6 r63.lt
    have hg6 := r63.lt
    have HC := Lib.hid hcell
    have HDL : Hid (sha q = dig (hashTo L)) := Lib.hid (by rw [HDE.out, HL.out])
    clear own5 hb35 hb6 r63 hb23 HP hcell hpz HDE
    generalize sha q = D at *
    refine (start_h0 w6).mono ?_
    rintro e w7 ⟨rfl, hb7⟩
    have r67 := r66.call hb7
    have hb07 : Below w.heap.size w w7 := hb06.trans (hb7.mono hb06.size)
    have HC7 : Hid (∀ j x, L[j]? = some x → w7.cell? ⟨g, j, none⟩ = some (.int .u8 (bd x))) := Lib.hid fun j x hx => (hb7.cell (p := ⟨g, j, none⟩) hgl).trans (HC.out j x hx)
    have hgl7 : g < w7.heap.size := Nat.lt_of_lt_of_le hgl hb7.size
    clear r66 hb06 HC hgl hb7
    go_wp2_with (first | (refine wpList_store_row rfl 33 _ _ rfl w7.heap.size (ws h0) rfl rfl 33 _ (Row.fresh _ _ _) size_h (by kernel_rfl) (one_ws _) ?_; rw [World.setRow_alloc_new]))
    go_loopw [9] (fun i wr => ∃ k : Nat, 64 * k ≤ L.length ∧ i = .int .i64 (64 * (k : Int)) ∧ PR w wr w7.heap.size g g6 L D k) (fun i _ => L.length - (intOf i).toNat)
    case atStart => exact ⟨0, by omega, rfl, Row.fresh _ _ _, r67.alloc _, hb07.alloc hb07.size _, fun j x hx => (World.cell?_alloc_lt w7 _ ⟨g, j, none⟩ hgl7).trans (HC7.out j x hx), Nat.lt_of_lt_of_le hgl7 (by simp)⟩
    case round =>
      have h07 := hb07.size
      clear hk2 hk0 hkc r67 hb07 HC7
      obtain ⟨t, ht, rfl, hR⟩ := hrel
      have HR := Lib.hid hR
      clear hR
      by_cases hlt : 64 * t < L.length
      · have h64 : 64 * t + 64 ≤ L.length := by have := HL64.out; omega
        have z1 := i64_id (64 * (t : Int) + 64) (by omega) (by omega)
        have i0 : (0 : Int) ≤ 64 * (t : Int) := by omega
        have i1 : 64 * (t : Int) + 64 ≤ (cap : Int) := by omega
        have i2 : 64 * (t : Int) ≤ (cap : Int) := by omega
        have i3 : 64 * (t : Int) ≤ 64 * (t : Int) + 64 := by omega
        have i4 : (0 : Int) ≤ 64 * (t : Int) + 64 := by omega
        have t0 : (64 * (t : Int)).toNat = 64 * t := by omega
        have t1 : (64 * (t : Int) + 64).toNat = 64 * t + 64 := by omega
        have n0 : ¬ cap = 64 * t := by omega
        go_wp2_with fail
        change Code.wp _ _ _ _ (wr.alloc (.cells (bs (zer 64)) 34))
        have rx := Row.fresh wr 34 (bs (zer 64))
        have HX := Lib.hid (PR.call HR.out ((Below.refl wr.heap.size wr).alloc (Nat.le_refl _) (.cells (bs (zer 64)) 34)))
        have hgx : g < wr.heap.size := HR.out.2.2.2.2
        have hg6x : g6 < wr.heap.size := HR.out.2.1.lt
        have hhx : w7.heap.size < wr.heap.size := HR.out.1.lt
        have hwr : w.heap.size ≤ wr.heap.size := HR.out.2.2.1.size
        clear HR
        generalize wr.alloc (.cells (bs (zer 64)) 34) = wx at *
        have HBL : Hid ((bytesV ((L.drop (64 * t)).take 64)).length = 64) := Lib.hid (by simp [bytesV]; omega)
        go_still_tail 6, (by kernel_rfl)
        change wpList _ _ _ _ _ wx.drew
        refine wpList_copy_own rfl _ _ 30 30 rfl 5 Tryd.underlying30 size_u8 wr.heap.size 0 64 64 ⟨g, 64 * t, none⟩ 64 (cap - 64 * t) rfl rfl (bs (zer 64)) 34 rx.drew (bytesV ((L.drop (64 * t)).take 64)) (by rw [HBL.out]; rfl) (src (src_at HX.out.2.2.2.1)) (by rw [size_bs, HBL.out]; simp [zer]) (one_bytesV _) ?_
        rw [copy_block L t h64]
        have HB : Hid (((L.drop (64 * t)).take 64).length = 64) := Lib.hid (by simp; omega)
        have ry := rx.drew.setRow (bs ((L.drop (64 * t)).take 64))
        have HY := Lib.hid (PR.setRow HX.out (gy := wr.heap.size) (by omega) (by omega) (by omega) hwr (bs ((L.drop (64 * t)).take 64)))
        clear rx HX z1 i0 i1 i2 i3 i4 t0 t1 n0 HBL
        generalize wx.drew.setRow wr.heap.size (bs ((L.drop (64 * t)).take 64)) = wy at *
        have hz2 : 64 * (t : Int) + 64 ≤ 4000 := by omega
        go_wp2_with (first | (refine wpList_load_row rfl 33 _ rfl w7.heap.size rfl 33 (ws (turns L t)) (0, 0) _ HY.out.1 Tryd.underlying33 rfl (by rw [size_ws, length_turns]; exact size_h) ?_) | (refine wpList_load_row rfl 34 _ rfl wr.heap.size rfl 34 (bs ((L.drop (64 * t)).take 64)) (0, 0) _ ry Tryd.underlying34 rfl (by rw [size_bs, HB.out]; exact size_b) ?_))
        refine (turn_any (turns L t) ((L.drop (64 * t)).take 64) (length_turns L t) HB.out wy (HT.out.below HY.out.2.2.1 HT.out.pos)).mono ?_
        rintro e w8 ⟨rfl, hb8⟩
        have HZ := Lib.hid (PR.call HY.out hb8)
        have HTN : Hid (turn (turns L t) ((L.drop (64 * t)).take 64) = turns L (t + 1)) := Lib.hid rfl
        rw [HTN.out]
        go_wp2_with (first | (refine wpList_store_row rfl 33 _ _ rfl w7.heap.size (ws (turns L (t + 1))) rfl rfl 33 _ HZ.out.1 (by rw [size_ws, length_turns]; exact size_h) (by rw [size_ws, size_ws, length_turns, length_turns]) (one_ws _) ?_))
        go_roundw
        case rel =>
          exact ⟨t + 1, by omega, by go_num, PR.turned HZ.out (by omega) (by omega) (by omega)⟩
        case measure => simp [intOf]; omega
      · obtain ⟨hr, hr6, hbr, _, _⟩ := HR.out
        have htl : 64 * t = L.length := by omega
        have HTL : Hid (turns L t = hashTo L) := Lib.hid (by rw [hashTo, ← htl, Nat.mul_div_cancel_left t (by omega)])
        have HH : Hid ((hashTo L).length = 8) := Lib.hid (length_hashTo L)
        rw [HTL.out] at hr
        clear HR htl HTL
        generalize hashTo L = H at *
        go_wp2_with fail
        have rd := Row.fresh wr 27 (bs (zer 32))
        go_loopw [12] (fun x wz => ∃ i : Nat, i ≤ 32 ∧ x = .int .i64 (i : Int) ∧ Row wz wr.heap.size 27 (bs (dpart H i)) ∧ Row wz w7.heap.size 33 (ws H) ∧ Row wz g6 27 (bs D) ∧ Below w.heap.size w wz) (fun x _ => 32 - (intOf x).toNat)
        case atStart => exact ⟨0, by omega, rfl, by rw [dpart_zero]; exact rd, hr.alloc _, hr6.alloc _, hbr.alloc hbr.size _⟩
        case round =>
          have hwr := hbr.size
          have hhx := hr.lt
          have hg6x := hr6.lt
          clear rd hr hr6 hbr
          obtain ⟨i, hi, rfl, rd, hr, hr6, hbz⟩ := hrel
          by_cases hlti : i < 32
          · have ha8 : i / 4 < 8 := by omega
            have ch := hr.get (get_ws H (i / 4) (by rw [HH.out]; exact ha8))
            have cd := rd.get (get_bs (dpart H i) i (by rw [length_dpart H _ HH.out hi]; omega))
            have fd := rd.free i
            go_wp2_with fail
            exact ⟨⟨i + 1, by omega, by go_num, d_step HH.out hlti rd hr hr6 hbz (by omega) (by omega) (by omega)⟩, by simp [intOf]; omega⟩
          · obtain rfl : i = 32 := by omega
            rw [dpart_all H HH.out, ← HDL.out] at rd
            have HS : Hid ((Tryd.prog.info? 27).map (·.size) = some (bs D).size) := Lib.hid (by rw [size_bs, HD.out]; exact size_d)
            clear hlti hi hr
            go_wp2_with (first | (refine wpList_load_row rfl 27 (.tmp 11) rfl _ rfl 27 (bs D) (0, 0) _ rd Tryd.underlying27 rfl HS.out ?_) | (refine wpList_load_row rfl 27 (.tmp 6) rfl g6 rfl 27 (bs D) (0, 0) _ hr6 Tryd.underlying27 rfl HS.out ?_))
            refine (wakes_any _ (HT.out.below hbz HT.out.pos)).mono ?_
            rintro e w9 ⟨rfl, hb9⟩
            go_wp2_with fail
            go_ret
            exact ⟨rfl, hbz.trans (hb9.mono hbz.size)⟩
end Go.Proofs.YthnhgpippdadkaaDoor
