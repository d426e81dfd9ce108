/- Merged: TabPure TabBack NamesRef TabRef TabRefE NamesCut. -/
import Derived.Deep.DeepCutAuto
import Derived.Deep.CutBlock
import Derived.Test.YtpmedgibnnonkaaDoorMGen1
import Derived.Test.YtpmedgibnnonkaaDoorMGen0
/- When volumes take just as many blocks as they name. No function of the program is named here. -/
set_option maxRecDepth 4000
namespace Go.Proofs.YtpmedgibnnonkaaDoor
open Go Go.RowKit
theorem bitI_get (x : Int) (b : Nat) (hb : b < 12) : (bitI x).getLsbD b = decide (x = (b : Int)) := by
  unfold bitI
  by_cases h : 0 ≤ x ∧ x < 12
  · rw [if_pos h]
    obtain ⟨n, hn⟩ := Int.eq_ofNat_of_zero_le h.1
    subst hn
    have hlt : n < 12 := by omega
    have key : ∀ (n b : Fin 12), (1#16 <<< n.val).getLsbD b.val = decide (n.val = b.val) := by decide
    have := key ⟨n, hlt⟩ ⟨b, hb⟩
    simp only at this
    rw [Int.toNat_natCast, this]
    exact decide_eq_decide.2 (by omega)
  · rw [if_neg h, decide_eq_false (by omega)]
    simp
theorem useL_get (L : List Int) (b : Nat) (hb : b < 12) : ∀ u : BitVec 16, (useL u L).getLsbD b = (u.getLsbD b || decide ((b : Int) ∈ L)) := by
  induction L with
  | nil => intro u; simp [useL]
  | cons x L ih =>
    intro u
    have e : useL u (x :: L) = useL (u ||| bitI x) L := rfl
    rw [e, ih, BitVec.getLsbD_or, bitI_get x b hb, Bool.or_assoc]
    congr 1
    rw [Bool.eq_iff_iff]
    simp only [Bool.or_eq_true, decide_eq_true_eq, List.mem_cons]
    exact or_congr ⟨fun h => h.symm, fun h => h.symm⟩ Iff.rfl
def flatB (l : List Tv) : List Int := l.flatMap (·.2)
theorem usedV_get (l : List Tv) (b : Nat) (hb : b < 12) : (usedV (volL l)).getLsbD b = (decide (b = 0) || decide ((b : Int) ∈ flatB l)) := by
  have key : ∀ (l : List Tv) (u : BitVec 16), ((volL l).foldl (fun u x => useL u x.2) u).getLsbD b = (u.getLsbD b || decide ((b : Int) ∈ flatB l)) := by
    intro l
    induction l with
    | nil => intro u; simp [volL, flatB]
    | cons x l ih =>
      intro u
      have e : (volL (x :: l)).foldl (fun u x => useL u x.2) u = (volL l).foldl (fun u x => useL u x.2) (useL u x.2) := rfl
      rw [e, ih, useL_get _ b hb, Bool.or_assoc]
      congr 1
      rw [Bool.eq_iff_iff]
      rw [Bool.or_eq_true, decide_eq_true_eq, decide_eq_true_eq, decide_eq_true_eq]
      unfold flatB
      rw [List.flatMap_cons, List.mem_append]
  unfold usedV
  rw [key l 1#16]
  congr 1
  have h1 : ∀ b : Fin 12, (1#16).getLsbD b.val = decide (b.val = 0) := by decide
  exact h1 ⟨b, hb⟩
/- how many blocks there are that are named -/
def cntF (F : List Int) : Nat := (List.range 12).countP fun b : Nat => decide (1 ≤ b) && decide (((b : Nat) : Int) ∈ F)
def okF (F : List Int) : Prop := F.Nodup ∧ ∀ x ∈ F, 1 ≤ x ∧ x < 12
theorem countP_more {l : List Nat} (hl : l.Nodup) (p : Nat → Bool) (a : Nat) (q : Nat → Bool) (hq : ∀ b, q b = (p b || decide (b = a))) : l.countP q = l.countP p + if a ∈ l ∧ p a = false then 1 else 0 := by
  induction l with
  | nil => simp
  | cons x l ih =>
    obtain ⟨hx, hl⟩ := List.nodup_cons.1 hl
    rw [List.countP_cons, List.countP_cons, ih hl, hq x]
    by_cases hxa : x = a
    · subst hxa
      have h2 : ¬ (x ∈ l ∧ p x = false) := fun h => hx h.1
      rw [if_neg h2]
      cases hp : p x <;> simp
    · have h3 : (x :: l).Mem a ↔ a ∈ l := by
        constructor
        · intro h; cases h with
          | head => exact absurd rfl hxa
          | tail _ h => exact h
        · intro h; exact List.Mem.tail _ h
      have h4 : (a ∈ x :: l ∧ p a = false) ↔ (a ∈ l ∧ p a = false) := and_congr h3 Iff.rfl
      rw [decide_eq_false hxa, Bool.or_false]
      by_cases h5 : a ∈ l ∧ p a = false
      · rw [if_pos h5, if_pos (h4.2 h5)]; omega
      · rw [if_neg h5, if_neg (fun h => h5 (h4.1 h))]; omega
theorem cntF_cons (x : Int) (F : List Int) : cntF (x :: F) = cntF F + if (1 ≤ x ∧ x < 12) ∧ x ∉ F then 1 else 0 := by
  unfold cntF
  by_cases hv : 1 ≤ x ∧ x < 12
  · obtain ⟨n, hn⟩ := Int.eq_ofNat_of_zero_le (show 0 ≤ x by omega)
    subst hn
    rw [countP_more List.nodup_range (fun b : Nat => decide (1 ≤ b) && decide (((b : Nat) : Int) ∈ F)) n _ (fun b => by
      rw [Bool.eq_iff_iff]
      simp only [Bool.or_eq_true, Bool.and_eq_true, decide_eq_true_eq, List.mem_cons]
      constructor
      · rintro ⟨h1, h2 | h2⟩
        · right; omega
        · left; exact ⟨h1, h2⟩
      · rintro (⟨h1, h2⟩ | h1)
        · exact ⟨h1, .inr h2⟩
        · exact ⟨by omega, .inl (by omega)⟩)]
    congr 1
    by_cases hF : (n : Int) ∈ F
    · rw [if_neg (fun h => by have := h.2; simp [hF] at this; omega), if_neg (fun h => h.2 hF)]
    · rw [if_pos ⟨by simp; omega, by simp [hF]⟩, if_pos ⟨hv, hF⟩]
  · rw [if_neg (fun h => hv h.1), Nat.add_zero]
    apply List.countP_congr
    intro b hb
    have hb := List.mem_range.1 hb
    simp only [Bool.and_eq_true, decide_eq_true_eq, List.mem_cons]
    constructor
    · rintro ⟨h1, h2 | h2⟩
      · omega
      · exact ⟨h1, h2⟩
    · rintro ⟨h1, h2⟩; exact ⟨h1, .inr h2⟩
theorem cntF_le : ∀ F : List Int, cntF F ≤ F.length
  | [] => by decide
  | x :: F => by
    have := cntF_le F
    rw [cntF_cons, List.length_cons]
    split <;> omega
theorem cntF_ok : ∀ F : List Int, cntF F = F.length ↔ okF F
  | [] => ⟨fun _ => ⟨List.nodup_nil, fun x h => by cases h⟩, fun _ => by decide⟩
  | x :: F => by
    have ih := cntF_ok F
    have hle := cntF_le F
    rw [cntF_cons, List.length_cons]
    constructor
    · intro h
      split at h
      · rename_i hx
        obtain ⟨h1, h2⟩ := ih.1 (by omega)
        exact ⟨List.nodup_cons.2 ⟨hx.2, h1⟩, fun y hy => by
          cases hy with
          | head => exact hx.1
          | tail _ hy => exact h2 y hy⟩
      · omega
    · rintro ⟨h1, h2⟩
      obtain ⟨h3, h4⟩ := List.nodup_cons.1 h1
      rw [if_pos ⟨h2 x (by simp), h3⟩, ih.2 ⟨h4, fun y hy => h2 y (by simp [hy])⟩]
theorem freeT_cnt (l : List Tv) : freeT l = 11 - cntF (flatB l) ∧ cntF (flatB l) ≤ 11 := by
  have h := usedV_get l
  have e : freeT l = (List.range 12).countP fun b : Nat => !(decide (b = 0) || decide (((b : Nat) : Int) ∈ flatB l)) := by
    unfold freeT freeL
    rw [List.length_map, ← List.countP_eq_length_filter]
    apply List.countP_congr
    intro b hb
    rw [h b (List.mem_range.1 hb)]
  unfold cntF
  rw [e]
  generalize flatB l = F
  simp only [List.range, List.range.loop, List.countP_cons, List.countP_nil]
  generalize decide ((((1 : Nat) : Int)) ∈ F) = b1
  generalize decide ((((2 : Nat) : Int)) ∈ F) = b2
  generalize decide ((((3 : Nat) : Int)) ∈ F) = b3
  generalize decide ((((4 : Nat) : Int)) ∈ F) = b4
  generalize decide ((((5 : Nat) : Int)) ∈ F) = b5
  generalize decide ((((6 : Nat) : Int)) ∈ F) = b6
  generalize decide ((((7 : Nat) : Int)) ∈ F) = b7
  generalize decide ((((8 : Nat) : Int)) ∈ F) = b8
  generalize decide ((((9 : Nat) : Int)) ∈ F) = b9
  generalize decide ((((10 : Nat) : Int)) ∈ F) = b10
  generalize decide ((((11 : Nat) : Int)) ∈ F) = b11
  simp
  revert b1 b2 b3 b4 b5 b6 b7 b8 b9 b10 b11
  decide
theorem sumT_flat (l : List Tv) : sumT l = (flatB l).length := by
  unfold sumT flatB
  rw [List.length_flatMap]
theorem free_okF (l : List Tv) : decide ((11 : Int) - (freeT l : Int) = (sumT l : Int)) = true ↔ okF (flatB l) := by
  obtain ⟨h1, h2⟩ := freeT_cnt l
  rw [decide_eq_true_eq, ← cntF_ok, sumT_flat]
  omega
theorem okF_left {F G : List Int} (h : okF (F ++ G)) : okF F := ⟨(List.nodup_append.1 h.1).1, fun x hx => h.2 x (by simp [hx])⟩
theorem okF_snoc {F : List Int} {x : Int} (h : okF F) (hx : x ∉ F) (h1 : 1 ≤ x) (h2 : x < 12) : okF (F ++ [x]) := by
  refine ⟨List.nodup_append.2 ⟨h.1, by simp, fun a ha b hb => ?_⟩, fun y hy => ?_⟩
  · obtain rfl := List.mem_singleton.1 hb
    rintro rfl; exact hx ha
  · rcases List.mem_append.1 hy with hy | hy
    · exact h.2 y hy
    · obtain rfl := List.mem_singleton.1 hy; exact ⟨h1, h2⟩
theorem okF_bad {F : List Int} {x : Int} (h : ¬ ((1 ≤ x ∧ x < 12) ∧ x ∉ F)) : ¬ okF (F ++ [x]) := fun k => h ⟨k.2 x (by simp), fun hx => by
  have := (List.nodup_append.1 k.1).2.2 x hx x (by simp)
  exact this rfl⟩
/- the blocks that were met -/
def metA (M : List Bool) : Array Value := (M.map Value.bool).toArray
def Met (M : List Bool) (F : List Int) : Prop := M.length = 12 ∧ ∀ b : Nat, b < 12 → M.getD b false = decide ((b : Int) ∈ F)
theorem met_nil : Met (List.replicate 12 false) [] := ⟨rfl, fun b hb => by
  have : ∀ b : Fin 12, (List.replicate 12 false).getD b.val false = false := by decide
  rw [this ⟨b, hb⟩]; simp⟩
theorem met_get {M : List Bool} {F : List Int} (h : Met M F) (b : Nat) (hb : b < 12) : (metA M)[b]? = some (.bool (M.getD b false)) := by
  have hl : b < M.length := by rw [h.1]; exact hb
  simp [metA, List.getD_eq_getElem?_getD, List.getElem?_eq_getElem hl]
theorem met_put (M : List Bool) (b : Nat) : (metA M).setIfInBounds b (.bool true) = metA (M.set b true) := by
  simp [metA, List.map_set]
theorem met_step {M : List Bool} {F : List Int} (h : Met M F) {x : Int} (h0 : 0 ≤ x) (h1 : x < 12) : Met (M.set x.toNat true) (F ++ [x]) := ⟨by rw [List.length_set, h.1], fun b hb => by
  have hl : x.toNat < M.length := by rw [h.1]; omega
  by_cases hbx : x.toNat = b
  · have hx : x = (b : Int) := by omega
    rw [List.getD_eq_getElem?_getD, hbx, List.getElem?_set_self (by omega), hx]
    simp
  · rw [List.getD_eq_getElem?_getD, List.getElem?_set_ne hbx, ← List.getD_eq_getElem?_getD, h.2 b hb]
    rw [Bool.eq_iff_iff]
    simp only [decide_eq_true_eq, List.mem_append, List.mem_singleton]
    constructor
    · exact fun h => .inl h
    · rintro (h | h)
      · exact h
      · omega⟩
theorem met_mem {M : List Bool} {F : List Int} (h : Met M F) {x : Int} (h0 : 0 ≤ x) (h1 : x < 12) : (M.getD x.toNat false = true ↔ x ∈ F) := by
  rw [h.2 _ (by omega), decide_eq_true_eq]
  rw [show ((x.toNat : Nat) : Int) = x by omega]
theorem flatB_take {l : List Tv} {k : Nat} {x : Tv} (h : l[k]? = some x) : flatB (l.take (k + 1)) = flatB (l.take k) ++ x.2 := by
  unfold flatB
  rw [List.take_add_one, h]
  simp
theorem flatB_split {l : List Tv} {k : Nat} {x : Tv} (h : l[k]? = some x) : flatB l = flatB (l.take k) ++ x.2 ++ flatB (l.drop (k + 1)) := by
  have e := List.take_append_drop (k + 1) l
  conv => lhs; rw [← e]
  unfold flatB
  rw [List.flatMap_append]
  congr 1
  exact flatB_take h
theorem goodT_noF {l : List Tv} {k j : Nat} {p : List (BitVec 8)} {L : List Int} (hk : l[k]? = some (p, L)) (h : ¬ okF (flatB (l.take k) ++ L.take j ++ [L.getD j 0])) (hj : j < L.length) : goodT l = false := by
  have h2 : ¬ okF (flatB l) := fun h3 => h (by
    rw [flatB_split hk] at h3
    have h4 := okF_left h3
    simp only at h4
    have e : L = L.take j ++ [L.getD j 0] ++ L.drop (j + 1) := by
      conv => lhs; rw [← List.take_append_drop (j + 1) L]
      rw [List.take_add_one, List.getElem?_eq_getElem hj, List.getD_eq_getElem?_getD, List.getElem?_eq_getElem hj]
      rfl
    generalize hG : flatB (l.take k) = G at h4
    have h6 : okF (G ++ (L.take j ++ [L.getD j 0] ++ L.drop (j + 1))) := e ▸ (show okF (G ++ L) by exact okF_left (G := []) (by simpa using h4))
    rw [← List.append_assoc, ← List.append_assoc] at h6
    exact okF_left h6)
  have h3 : decide ((11 : Int) - (freeT l : Int) = (sumT l : Int)) = false := by
    cases hd : decide ((11 : Int) - (freeT l : Int) = (sumT l : Int)) with
    | false => rfl
    | true => exact absurd ((free_okF l).1 hd) h2
  unfold goodT
  rw [h3]; simp
end Go.Proofs.YtpmedgibnnonkaaDoor

/- Tables and their blocks: each is told by the other; tables turned about. No function of the program is named here. -/
set_option maxRecDepth 4000
namespace Go.Proofs.YtpmedgibnnonkaaDoor
open Go Go.RowKit
theorem bd_byteI12 {z : Int} (h0 : 0 ≤ z) (h1 : z < 256) : bd (byteI z) = z := (bd_of z h0 h1).symm
theorem good_okF {l : List Tv} (h : goodT l = true) : okF (flatB l) := (free_okF l).1 (decide_eq_true (goodT_parts h).2.2)
theorem good_vals {l : List Tv} (h : goodT l = true) {x : Tv} (hx : x ∈ l) : goodN x.1 = true ∧ 1 ≤ x.2.length ∧ x.2.length ≤ 4 ∧ ∀ y ∈ x.2, 1 ≤ y ∧ y < 12 := by
  obtain ⟨k, hk⟩ := List.getElem?_of_mem hx
  have h1 := okT_parts ((goodT_parts h).2.1 k x hk)
  exact ⟨h1.1, h1.2.2.1, h1.2.2.2, fun y hy => (good_okF h).2 y (by unfold flatB; exact List.mem_flatMap.2 ⟨x, hx, hy⟩)⟩
theorem from_back {x : Tv} (h1 : 1 ≤ x.2.length) (h4 : x.2.length ≤ 4) (hv : ∀ y ∈ x.2, 1 ≤ y ∧ y < 12) : fromL (volE x) = x.2 := by
  obtain ⟨p, L⟩ := x
  obtain ⟨a1, a2, a3, a4, ha⟩ := list_4 (length_padN p)
  simp only at *
  have hn : (byteI (L.length : Int)).toNat = L.length := by
    have := bd_byteI12 (z := (L.length : Int)) (by omega) (by omega)
    have e : bd (byteI (L.length : Int)) = ((byteI (L.length : Int)).toNat : Int) := rfl
    omega
  unfold fromL volE
  simp only
  rw [ha, show ([a1, a2, a3, a4] ++ (byteI (L.length : Int) :: blk4 L)).getD 4 0#8 = byteI (L.length : Int) from rfl, hn, Nat.min_eq_left h4]
  show ((blk4 L).take L.length).map bd = L
  have hb : ∀ y ∈ L, bd (byteI y) = y := fun y hy => bd_byteI12 (by have := hv y hy; omega) (by have := hv y hy; omega)
  rcases (by omega : L.length = 1 ∨ L.length = 2 ∨ L.length = 3 ∨ L.length = 4) with h | h | h | h
  · obtain ⟨a, rfl⟩ := list_1 h
    show [bd (byteI a)] = _
    rw [hb a (by simp)]
  · obtain ⟨a, b, rfl⟩ := list_2 h
    show [bd (byteI a), bd (byteI b)] = _
    rw [hb a (by simp), hb b (by simp)]
  · obtain ⟨a, b, c, rfl⟩ := list_3 h
    show [bd (byteI a), bd (byteI b), bd (byteI c)] = _
    rw [hb a (by simp), hb b (by simp), hb c (by simp)]
  · obtain ⟨a, b, c, d, rfl⟩ := list_4 h
    show [bd (byteI a), bd (byteI b), bd (byteI c), bd (byteI d)] = _
    rw [hb a (by simp), hb b (by simp), hb c (by simp), hb d (by simp)]
theorem vol_back {x : Tv} (hg : goodN x.1 = true) (h1 : 1 ≤ x.2.length) (h4 : x.2.length ≤ 4) (hv : ∀ y ∈ x.2, 1 ≤ y ∧ y < 12) : volQ (volE x) = x := by
  have e : (volE x).take 4 = padN x.1 := by unfold volE; exact List.take_left' (length_padN _)
  unfold volQ
  rw [e, cut_pad hg, from_back h1 h4 hv]
theorem slot_at {A R : List (BitVec 8)} {x : Tv} {o : Nat} (hA : A.length = o) : ((A ++ (volE x ++ R)).drop o).take 9 = volE x := by
  rw [List.drop_left' hA, List.take_left' (length_volE x)]
theorem encB_get0 {l : List Tv} (h : l.length ≤ 3) : ((encB l).getD 0 0#8).toNat = l.length := by
  have e : (encB l).getD 0 0#8 = byteI (l.length : Int) := rfl
  have := bd_byteI12 (z := (l.length : Int)) (by omega) (by omega)
  have e2 : bd (byteI (l.length : Int)) = ((byteI (l.length : Int)).toNat : Int) := rfl
  rw [e]; omega
theorem dec_back {l : List Tv} (h : goodT l = true) : decQ (encB l) = l := by
  have hV : ∀ x ∈ l, volQ (volE x) = x := fun x hx => by
    obtain ⟨h1, h2, h3, h4⟩ := good_vals h hx
    exact vol_back h1 h2 h3 h4
  have h3 := (goodT_parts h).1
  unfold decQ
  rw [encB_get0 h3]
  rcases (by omega : l.length = 0 ∨ l.length = 1 ∨ l.length = 2 ∨ l.length = 3) with k | k | k | k
  · rw [List.length_eq_zero_iff.1 k]; rfl
  · obtain ⟨x, rfl⟩ := list_1 k
    show [volQ (((encB [x]).drop (1 + 9 * 0)).take 9)] = _
    have e : (((encB [x]).drop (1 + 9 * 0)).take 9) = volE x := by
      unfold encB
      simp only [List.flatMap_cons, List.flatMap_nil, List.append_assoc]
      exact slot_at (A := [byteI _]) rfl
    rw [e, hV x (by simp)]
  · obtain ⟨x, y, rfl⟩ := list_2 k
    show [volQ (((encB [x, y]).drop (1 + 9 * 0)).take 9), volQ (((encB [x, y]).drop (1 + 9 * 1)).take 9)] = _
    have e : (((encB [x, y]).drop (1 + 9 * 0)).take 9) = volE x := by
      unfold encB
      simp only [List.flatMap_cons, List.flatMap_nil, List.append_assoc]
      exact slot_at (A := [byteI _]) rfl
    have e2 : (((encB [x, y]).drop (1 + 9 * 1)).take 9) = volE y := by
      unfold encB
      simp only [List.flatMap_cons, List.flatMap_nil]
      rw [show [byteI (([x, y] : List Tv).length : Int)] ++ (volE x ++ (volE y ++ [])) ++ zer (31 - 9 * ([x, y] : List Tv).length) = ([byteI (([x, y] : List Tv).length : Int)] ++ volE x) ++ (volE y ++ zer (31 - 9 * ([x, y] : List Tv).length)) by simp only [List.append_assoc, List.append_nil]]
      exact slot_at (by rw [List.length_append, length_volE]; rfl)
    rw [e, e2, hV x (by simp), hV y (by simp)]
  · obtain ⟨x, y, z, rfl⟩ := list_3 k
    show [volQ (((encB [x, y, z]).drop (1 + 9 * 0)).take 9), volQ (((encB [x, y, z]).drop (1 + 9 * 1)).take 9), volQ (((encB [x, y, z]).drop (1 + 9 * 2)).take 9)] = _
    have e : (((encB [x, y, z]).drop (1 + 9 * 0)).take 9) = volE x := by
      unfold encB
      simp only [List.flatMap_cons, List.flatMap_nil, List.append_assoc]
      exact slot_at (A := [byteI _]) rfl
    have e2 : (((encB [x, y, z]).drop (1 + 9 * 1)).take 9) = volE y := by
      unfold encB
      simp only [List.flatMap_cons, List.flatMap_nil]
      rw [show [byteI (([x, y, z] : List Tv).length : Int)] ++ (volE x ++ (volE y ++ (volE z ++ []))) ++ zer (31 - 9 * ([x, y, z] : List Tv).length) = ([byteI (([x, y, z] : List Tv).length : Int)] ++ volE x) ++ (volE y ++ (volE z ++ zer (31 - 9 * ([x, y, z] : List Tv).length))) by simp only [List.append_assoc, List.append_nil]]
      exact slot_at (by rw [List.length_append, length_volE]; rfl)
    have e3 : (((encB [x, y, z]).drop (1 + 9 * 2)).take 9) = volE z := by
      unfold encB
      simp only [List.flatMap_cons, List.flatMap_nil]
      rw [show [byteI (([x, y, z] : List Tv).length : Int)] ++ (volE x ++ (volE y ++ (volE z ++ []))) ++ zer (31 - 9 * ([x, y, z] : List Tv).length) = ([byteI (([x, y, z] : List Tv).length : Int)] ++ volE x ++ volE y) ++ (volE z ++ zer (31 - 9 * ([x, y, z] : List Tv).length)) by simp only [List.append_assoc, List.append_nil]]
      exact slot_at (by rw [List.length_append, List.length_append, length_volE, length_volE]; rfl)
    rw [e, e2, e3, hV x (by simp), hV y (by simp), hV z (by simp)]
theorem tab_back {l : List Tv} (h : goodT l = true) : decLT (encT l) = l ∧ decE (encT l) = 0 ∧ encE l = 0 := by
  have e : encT l = encB l := by unfold encT; rw [h]; rfl
  have hd := dec_back h
  have hk : okD (encT l) = true := by
    rw [e]
    exact okD_yes (by rw [encB_get0 (goodT_parts h).1]; exact (goodT_parts h).1) (by rw [hd]; exact h) (by rw [hd]; exact e)
  obtain ⟨h1, h2⟩ := dec_good hk
  exact ⟨by rw [h1, e, hd], h2, encE_z.2 h⟩
theorem enc_inj {l m : List Tv} (h : goodT l = true) (k : goodT m = true) : decide (encT l = encT m) = decide (l = m) := by
  rw [Bool.eq_iff_iff]
  simp only [decide_eq_true_eq]
  constructor
  · intro e
    have h1 := (tab_back h).1
    rw [e, (tab_back k).1] at h1
    exact h1.symm
  · rintro rfl; rfl
theorem decE_z {q : List (BitVec 8)} : decE q = 0 ↔ okD q = true := by unfold decE; cases okD q <;> simp
theorem okD_parts {q : List (BitVec 8)} (h : okD q = true) : goodT (decLT q) = true ∧ encT (decLT q) = q := by
  rw [(dec_good h).1]
  unfold okD at h
  simp only [Bool.and_eq_true, decide_eq_true_eq] at h
  exact h.2
end Go.Proofs.YtpmedgibnnonkaaDoor

/- The document's names: Good, Pad, Cut. -/
set_option maxRecDepth 4000
namespace Go.Proofs.YtpmedgibnnonkaaDoor
open Go Go.RowKit
attribute [local go_sem] strB_size
set_option maxHeartbeats 1600000 in
theorem refgoodn_any (l : List (List (BitVec 8))) (v : Value) (w : World) (hv : Strs w v l) (hl : l.length ≤ maxLen) :
    Calls Tryd.prog 25 #[v] w fun e w' => e = .returned (.bool (goodNs l)) ∧ w = w' := by
  obtain ⟨A, c, rfl⟩ : ∃ A c, v = .slice A l.length c := by obtain ⟨A, c, h, _⟩ := hv; exact ⟨A, c, h⟩
  obtain ⟨n, hn⟩ : ∃ n, l.length = n := ⟨_, rfl⟩
  have HN := Lib.hid hn
  have HM : Hid (∀ q ∈ l, q.length ≤ maxLen) := Lib.hid (by obtain ⟨_, _, _, _, _, hm, _⟩ := hv; exact hm)
  rw [hn] at hv hl ⊢
  have HV := Lib.hid hv
  unfold maxLen at hl
  obtain ⟨G, hG⟩ : ∃ G, goodNs l = G := ⟨_, rfl⟩
  have HY : Hid ((∀ j < n, goodN (l.getD j []) = true) → G = true) := Lib.hid fun h => by rw [← hG]; exact good_all (by rw [hn]; exact h)
  have HNO : Hid (∀ j < n, goodN (l.getD j []) = false → G = false) := Lib.hid fun j hj h => by rw [← hG]; exact good_no (by rw [hn]; exact hj) h
  rw [hG]
  clear hn hG hv
  go_enter Tryd.func25, Tryd.ntmps25
  go_wp2_with fail
  go_loopw [3] (fun i wr => ∃ k : Nat, k ≤ n ∧ i = .int .i64 k ∧ (∀ j < k, goodN (l.getD j []) = true) ∧ wr = w) (fun i _ => n - (intOf i).toNat)
  case atStart => exact ⟨0, by omega, rfl, fun j hj => by omega, rfl⟩
  case round =>
    obtain ⟨k, hk, rfl, hok, rfl⟩ := hrel
    have HOK := Lib.hid hok
    clear hok
    by_cases hlt : k < n
    · obtain ⟨q, hx⟩ : ∃ x, l[k]? = some x := ⟨_, List.getElem?_eq_getElem (by rw [HN.out]; exact hlt)⟩
      have HQD : Hid (l.getD k [] = q) := Lib.hid (by rw [List.getD_eq_getElem?_getD, hx]; rfl)
      have HQM : Hid (q.length ≤ maxLen) := Lib.hid (HM.out q (List.mem_of_getElem? hx))
      obtain ⟨b, o, rfl, hbw, hcell⟩ := strs_at HV.out hx
      obtain ⟨m, hm⟩ : ∃ m, q.length = m := ⟨_, rfl⟩
      have hk0 : (0 : Int) ≤ (k : Int) := by omega
      have hk1 : (k : Int) < (n : Int) := by omega
      have hkd : decide ((k : Int) < (n : Int)) = true := decide_eq_true hk1
      have HQ4 : Hid (goodN q = (decide (1 ≤ m) && decide (m ≤ 4) && q.all letter)) := Lib.hid (by rw [← hm]; rfl)
      clear hx hbw
      by_cases h1 : m < 1
      · have hd1 : decide ((m : Int) < 1) = true := decide_eq_true (by omega)
        have hG : G = false := HNO.out k hlt (by rw [HQD.out, HQ4.out, decide_eq_false (by omega)]; rfl)
        go_wp2_with fail
        go_ret
        first | exact ⟨rfl, rfl⟩ | (rw [hG]; exact ⟨rfl, rfl⟩)
      have hd1 : decide ((m : Int) < 1) = false := decide_eq_false (by omega)
      by_cases h4 : 4 < m
      · have hd2 : decide ((4 : Int) < (m : Int)) = true := decide_eq_true (by omega)
        have hG : G = false := HNO.out k hlt (by rw [HQD.out, HQ4.out, decide_eq_false (show ¬ m ≤ 4 by omega), Bool.and_false]; rfl)
        go_wp2_with fail
        go_ret
        first | exact ⟨rfl, rfl⟩ | (rw [hG]; exact ⟨rfl, rfl⟩)
      have hd2 : decide ((4 : Int) < (m : Int)) = false := decide_eq_false (by omega)
      have HQ5 : Hid (goodN q = q.all letter) := Lib.hid (by rw [HQ4.out, decide_eq_true (by omega), decide_eq_true (by omega)]; rfl)
      have HML : Hid (q.length = m) := Lib.hid hm
      have HG0 : Hid (goodN q = false → G = false) := Lib.hid fun h => HNO.out k hlt (by rw [HQD.out, h])
      have HIX : Hid (∀ w (j : Nat), j < m → (Instr.index 9 (.string (strB q)) (.int .i64 (j : Int))).run Tryd.prog w = .ok (.int .u8 (bd (q.getD j 0#8))) w) := Lib.hid fun w j hj => run_ix w 9 q .i64 j Tryd.underlying9 (by rw [hm]; exact hj)
      have hw : IntKind.i64.wrap ((k : Int) + 1) = ((k + 1 : Nat) : Int) := by rw [i64_id _ (by omega) (by omega)]; omega
      go_wp2_with fail
      clear hd1 hd2
      go_loopw [4] (fun i ws => ∃ j : Nat, j ≤ m ∧ i = .int .i64 j ∧ (∀ s < j, letter (q.getD s 0#8) = true) ∧ ws = wr) (fun i _ => m - (intOf i).toNat)
      case atStart => exact ⟨0, by omega, rfl, fun j hj => by omega, rfl⟩
      case round =>
        obtain ⟨j, hj, rfl, hok, rfl⟩ := hrel
        have HOJ := Lib.hid hok
        clear hok
        by_cases hjm : j < m
        · have hix := fun w => HIX.out w j hjm
          have hj0 : decide ((j : Int) < (m : Int)) = true := decide_eq_true (by omega)
          have hj1 : (j : Int) < (m : Int) := by omega
          have hj2 : (0 : Int) ≤ (j : Int) := by omega
          obtain ⟨x, hx⟩ : ∃ x, q.getD j 0#8 = x := ⟨_, rfl⟩
          have HX := Lib.hid hx
          rw [hx] at hix
          clear hx
          by_cases h97 : bd x < 97
          · have hd1 : decide (bd x < 97) = true := decide_eq_true h97
            have hG : G = false := HG0.out (by rw [HQ5.out]; exact all_no (by rw [HML.out]; exact hjm) (by rw [HX.out]; unfold letter; rw [decide_eq_false (by omega)]; rfl))
            go_wp2_with fail
            go_ret
            first | exact ⟨rfl, rfl⟩ | (rw [hG]; exact ⟨rfl, rfl⟩)
          have hd1 : decide (bd x < 97) = false := decide_eq_false h97
          by_cases h122 : 122 < bd x
          · have hd2 : decide (122 < bd x) = true := decide_eq_true h122
            have hG : G = false := HG0.out (by rw [HQ5.out]; exact all_no (by rw [HML.out]; exact hjm) (by rw [HX.out]; unfold letter; rw [decide_eq_false (show ¬ bd x ≤ 122 by omega), Bool.and_false]))
            go_wp2_with fail
            go_ret
            first | exact ⟨rfl, rfl⟩ | (rw [hG]; exact ⟨rfl, rfl⟩)
          have hd2 : decide (122 < bd x) = false := decide_eq_false h122
          have hwj : IntKind.i64.wrap ((j : Int) + 1) = ((j + 1 : Nat) : Int) := by rw [i64_id _ (by omega) (by omega)]; omega
          go_wp2_with fail
          refine ⟨⟨j + 1, by omega, by go_num, fun s hs => ?_, trivial⟩, by simp [intOf]; omega⟩
          rcases Nat.lt_succ_iff_lt_or_eq.1 hs with h | h
          · exact HOJ.out s h
          · subst h; rw [HX.out]; unfold letter; rw [decide_eq_true (by omega), decide_eq_true (by omega)]; rfl
        · have hj0 : decide ((j : Int) < (m : Int)) = false := decide_eq_false (by omega)
          have HAL : Hid (q.all letter = true) := Lib.hid (all_of fun s hs => HOJ.out s (by rw [HML.out] at hs; omega))
          go_wp2_with fail
          refine ⟨⟨k + 1, by omega, by go_num, fun j hj => ?_, trivial⟩, by simp [intOf]; omega⟩
          rcases Nat.lt_succ_iff_lt_or_eq.1 hj with h | h
          · exact HOK.out j h
          · subst h; rw [HQD.out, HQ5.out]; exact HAL.out
    · have hkd : decide ((k : Int) < (n : Int)) = false := decide_eq_false (by omega)
      have hG : G = true := HY.out fun j hj => HOK.out j (by omega)
      go_wp2_with fail
      go_ret
      first | exact ⟨rfl, rfl⟩ | (rw [hG]; exact ⟨rfl, rfl⟩)
/- the first k bytes of a name laid -/
def padK (q : List (BitVec 8)) (k : Nat) : List (BitVec 8) := padN (q.take k)
theorem padK_zero (q : List (BitVec 8)) : padK q 0 = zer 4 := by unfold padK padN; rw [List.take_zero, List.nil_append, zer, List.take_replicate]; rfl
theorem padK_end (q : List (BitVec 8)) (k : Nat) (h : k = 4 ∨ q.length ≤ k) : padK q k = padN q := by
  rcases h with rfl | h
  · unfold padK padN
    rw [List.take_append, List.take_append, List.take_take, Nat.min_self, List.length_take]
    unfold zer
    rw [List.take_replicate, List.take_replicate]
    congr 2
    omega
  · unfold padK; rw [List.take_of_length_le h]
theorem padK_set (q : List (BitVec 8)) (k : Nat) (h : k < q.length) : (padK q k).set k (q.getD k 0#8) = padK q (k + 1) := by
  apply List.ext_getElem (by rw [List.length_set]; unfold padK; rw [length_padN, length_padN])
  intro i h1 h2
  have hi : i < 4 := by rw [List.length_set] at h1; unfold padK at h1; rw [length_padN] at h1; exact h1
  have g : ∀ k (hh : i < (padK q k).length), (padK q k)[i] = if i < k ∧ i < q.length then q.getD i 0#8 else 0#8 := fun k hh => by
    have e : padK q k = (q.take k ++ zer 4).take 4 := rfl
    rw [List.getElem_of_eq e, List.getElem_take]
    by_cases hc : i < k ∧ i < q.length
    · rw [if_pos hc, List.getElem_append_left (by rw [List.length_take]; omega), List.getElem_take, List.getD_eq_getElem?_getD, List.getElem?_eq_getElem hc.2]; rfl
    · rw [if_neg hc, List.getElem_append_right (by rw [List.length_take]; omega)]
      exact List.getElem_replicate ..
  rw [List.getElem_set, g _ (by simpa using h1), g]
  by_cases e : k = i
  · subst e; rw [if_pos rfl, if_pos ⟨by omega, h⟩]
  · rw [if_neg e]
    by_cases hc : i < k ∧ i < q.length
    · rw [if_pos hc, if_pos ⟨by omega, hc.2⟩]
    · rw [if_neg hc, if_neg (by omega)]
set_option maxHeartbeats 800000 in
theorem refpad_any (q : List (BitVec 8)) (w : World) (hm : q.length ≤ maxLen) :
    Calls Tryd.prog 20 #[.string (strB q)] w fun e w' => e = .returned (.agg (bs (padN q))) ∧ Below w.heap.size w w' := by
  obtain ⟨n, hn⟩ : ∃ n, q.length = n := ⟨_, rfl⟩
  have HN := Lib.hid hn
  have HMM := Lib.hid hm
  have HIX : Hid (∀ w (j : Nat), j < n → (Instr.index 9 (.string (strB q)) (.int .i64 (j : Int))).run Tryd.prog w = .ok (.int .u8 (bd (q.getD j 0#8))) w) := Lib.hid fun w j hj => run_ix w 9 q .i64 j Tryd.underlying9 (by rw [hn]; exact hj)
  have HS := St.nil w noF
  clear hm
  go_enter Tryd.func20, Tryd.ntmps20
  go_upto_region 3 with (first | ((with_reducible refine wpList_plain ?_ ?_); exact rfl; intro KK hKK; refine wp_st_alloc HS 50 (bs (zer 4)) rfl (.agg (bs (zer 4))) (by kernel_rfl) (rfl) (fun g2 W1 HSx => hKK _ _ ?_); clear hKK KK HS; have HS : St w noF [⟨g2, 50, bs (zer 4)⟩] W1 := HSx; clear HSx) | ((with_reducible refine wpList_plain ?_ ?_); exact rfl; intro KK hKK; refine wp_st_alloc HS 50 (bs (zer 4)) rfl (.agg (bs (zer 4))) (by kernel_rfl) (rfl) (fun g3 W2 HSx => hKK _ _ ?_); clear hKK KK HS; have HS : St w noF [⟨g2, 50, bs (zer 4)⟩, ⟨g3, 50, bs (zer 4)⟩] W2 := HSx; clear HSx))
  go_loopw [4] (fun i wr => ∃ k : Nat, k ≤ 4 ∧ k ≤ n ∧ i = .int .i64 k ∧ St w noF [⟨g2, 50, bs (zer 4)⟩, ⟨g3, 50, bs (padK q k)⟩] wr) (fun i _ => 4 - (intOf i).toNat)
  case atStart => exact ⟨0, by omega, by omega, rfl, by rw [padK_zero]; exact HS⟩
  case round =>
    clear HS
    obtain ⟨k, hk4, hkn, rfl, HS⟩ := hrel
    by_cases h4 : k < 4
    · have hd4 : decide ((k : Int) < 4) = true := decide_eq_true (by omega)
      by_cases hlt : k < n
      · have hdn : decide ((k : Int) < (n : Int)) = true := decide_eq_true (by omega)
        have hix := fun w => HIX.out w k hlt
        have hk0 : (0 : Int) ≤ (k : Int) := by omega
        have hk1 : (k : Int) < 4 := by omega
        have hw : IntKind.i64.wrap ((k : Int) + 1) = ((k + 1 : Nat) : Int) := by rw [i64_id _ (by omega) (by omega)]; omega
        have HPS := Lib.hid (padK_set q k (by rw [HN.out]; exact hlt))
        obtain ⟨x, hx⟩ : ∃ x, q.getD k 0#8 = x := ⟨_, rfl⟩
        rw [hx] at hix HPS
        clear hx
        have HFIT : Hid (k < (bs (padK q k)).size) := Lib.hid (by rw [size_bs]; unfold padK; rw [length_padN]; exact h4)
        go_wp2_with (first | ((with_reducible refine wpList_plain ?_ ?_); exact rfl; intro KK hKK; refine wp_st_put HS 1 k 5 (.tmp 19) (.tmp 18) rfl rfl rfl (.int .u8 (bd x)) rfl (by kernel_rfl) rfl rfl (HFIT.out) (bs (padK q (k + 1))) ((set_bs _ _ _).trans (congrArg bs HPS.out)) (fun W3 HSx => hKK _ _ ?_); clear hKK KK HS; have HS : St w noF [⟨g2, 50, bs (zer 4)⟩, ⟨g3, 50, bs (padK q (k + 1))⟩] W3 := HSx; clear HSx))
        exact ⟨⟨k + 1, by omega, by omega, by go_num, HS⟩, by simp [intOf]; omega⟩
      · have hdn : decide ((k : Int) < (n : Int)) = false := decide_eq_false (by omega)
        have HE := Lib.hid (padK_end q k (.inr (by rw [HN.out]; omega)))
        rw [HE.out] at HS
        go_wp2_with (first | ((with_reducible refine wpList_plain ?_ ?_); exact rfl; intro KK hKK; refine wp_st_load HS 1 0 50 (.tmp 3) rfl rfl rfl (bs (padN q)) (slab_whole _) _ Tryd.underlying50 rfl (by rw [size_bs, length_padN]; exact size_b4) (hKK _ _ ?_); clear hKK KK) | ((with_reducible refine wpList_plain ?_ ?_); exact rfl; intro KK hKK; refine wp_st_store HS 0 0 50 (.tmp 2) (.tmp 20) rfl rfl rfl (.agg (bs (padN q))) rfl (by rw [show Value.cells (.agg (bs (padN q))) = bs (padN q) from rfl, size_bs, length_padN]; exact size_b4) (by rw [show Value.cells (.agg (bs (padN q))) = bs (padN q) from rfl, size_bs, length_padN, size_bs, length_zer]; decide) (by exact one_bs _) (bs (padN q)) (spl_agg _ _ _ rfl (by rw [size_bs, size_bs, length_padN, length_zer])) (fun W4 HSx => hKK _ _ ?_); clear hKK KK HS; have HS : St w noF [⟨g2, 50, bs (padN q)⟩, ⟨g3, 50, bs (padN q)⟩] W4 := HSx; clear HSx))
        exact bodyPost_ret (v := .agg (bs (padN q))) (results_cell_row Tryd.results20 _ _ g2 50 (bs (padN q)) (0, 0) _ rfl (HS.row 0 rfl) Tryd.underlying50 rfl (by rw [size_bs, length_padN]; exact size_b4)) rfl ⟨rfl, HS.below⟩
    · have hd4 : decide ((k : Int) < 4) = false := decide_eq_false (by omega)
      have HE := Lib.hid (padK_end q k (.inl (by omega)))
      rw [HE.out] at HS
      go_wp2_with (first | ((with_reducible refine wpList_plain ?_ ?_); exact rfl; intro KK hKK; refine wp_st_load HS 1 0 50 (.tmp 3) rfl rfl rfl (bs (padN q)) (slab_whole _) _ Tryd.underlying50 rfl (by rw [size_bs, length_padN]; exact size_b4) (hKK _ _ ?_); clear hKK KK) | ((with_reducible refine wpList_plain ?_ ?_); exact rfl; intro KK hKK; refine wp_st_store HS 0 0 50 (.tmp 2) (.tmp 20) rfl rfl rfl (.agg (bs (padN q))) rfl (by rw [show Value.cells (.agg (bs (padN q))) = bs (padN q) from rfl, size_bs, length_padN]; exact size_b4) (by rw [show Value.cells (.agg (bs (padN q))) = bs (padN q) from rfl, size_bs, length_padN, size_bs, length_zer]; decide) (by exact one_bs _) (bs (padN q)) (spl_agg _ _ _ rfl (by rw [size_bs, size_bs, length_padN, length_zer])) (fun W4 HSx => hKK _ _ ?_); clear hKK KK HS; have HS : St w noF [⟨g2, 50, bs (padN q)⟩, ⟨g3, 50, bs (padN q)⟩] W4 := HSx; clear HSx))
      exact bodyPost_ret (v := .agg (bs (padN q))) (results_cell_row Tryd.results20 _ _ g2 50 (bs (padN q)) (0, 0) _ rfl (HS.row 0 rfl) Tryd.underlying50 rfl (by rw [size_bs, length_padN]; exact size_b4)) rfl ⟨rfl, HS.below⟩
end Go.Proofs.YtpmedgibnnonkaaDoor

/- The document's tables: Find, Good. -/
set_option maxRecDepth 4000
namespace Go.Proofs.YtpmedgibnnonkaaDoor
open Go Go.RowKit
theorem ints_atB {w : World} {A : Option Addr} {b o n c : Nat} {L : List Int} (h : IntsAt w (.slice A n c) L) (hA : A = some ⟨b, o, none⟩) (k : Nat) (hk : k < n) : w.cell? ⟨b, o + k, none⟩ = some (.int .i64 (L.getD k 0)) := by
  subst hA; exact ints_at h k hk
set_option maxHeartbeats 800000 in
theorem rfind_pos (b o n c : Nat) (q : List (BitVec 8)) (l : List Tv) (w : World) (hv : VolsAt w (.slice (some ⟨b, o, none⟩) n c) (volL l)) (hn : n ≤ 1000000) :
    Calls Tryd.prog 18 #[.string (strB q), .slice (some ⟨b, o, none⟩) n c] w fun e w' => e = .returned (.int .i64 (findI q l)) ∧ Below w.heap.size w w' := by
  have HS := St.nil w noF
  have HV : ∀ W, Below w.heap.size w W → VolsAt W (.slice (some ⟨b, o, none⟩) n c) (volL l) := fun W hb => hv.below hb (Nat.le_refl _)
  have hln : l.length = n := by rw [← len_volL]; exact vols_len hv
  refine enter_en Tryd.func18 rfl Tryd.ntmps18 (Nat.le_of_ble_eq_true rfl) fun a0 (HA0 : En 20 [(0, .string (strB q)), (1, .slice (some ⟨b, o, none⟩) n c)] a0) => ?_
  refine sq_ <| rl_ <| wl_ <| p_ HA0 rfl rfl fun a1 H1 => ln_ <| nx <| sq_ <| sq_ <| rl_ <| wl_ <| p_ H1 rfl rfl fun a2 H2 => ln_ <| nx <| wp_block <| ?_
  clear HA0 a0 H1 a1
  refine wp_loopG (ι := Nat) (fun k a9 w9 => (k ≤ n) ∧ (∀ j, j < k → ∀ x, l[j]? = some x → x.1 ≠ q) ∧ En 20 [(5, .int .i64 k), (0, .string (strB q)), (1, .slice (some ⟨b, o, none⟩) n c)] a9 ∧ St w noF [] w9) (fun k => n - k) (0) ⟨Nat.zero_le _, (fun j hj => absurd hj (Nat.not_lt_zero _)), H2.sel [1, 0, 5] rfl, ss HS []⟩ ?_
  clear H2 a2 HS
  rintro k aL3 wL3 ⟨hk, hno, HL3, HSL3⟩
  refine sq_ <| sq_ <| rl_ <| q_ HL3 2 rfl fun a4 H4 => wl_ <| i_ H4 rfl (v := .int .i64 n) (dd_len rfl (H4.ev 7 rfl) Tryd.underlying22) fun a5 H5 => ?_
  clear HL3 aL3 H4 a4
  by_cases hc7 : (k : Int) < n
  ·
   refine wl_ <| i_ H5 rfl (dd_cmp rfl (H5.ev 6 rfl) (H5.ev 8 rfl) (lt_t hc7)) fun a8 H8 => ln_ <| nx <| ct_ H8 rfl <| wp_skip <| nx <| sq_ <| wp_block <| sq_ <| rl_ <| q_ H8 2 rfl fun a9 H9 => wl_ <| i_ H9 rfl (xSo 2 (o + k * 2) rfl (H9.ev 12 rfl) (H9.ev 13 rfl)) fun a10 H10 => wl_ <| i_ H10 rfl (xf 0 (o + k * 2) rfl (H10.ev 14 rfl)) fun a11 H11 => ?_
   clear H5 a5 H8 a8 H9 a9 H10 a10
   obtain ⟨p13, L13, B13, m13, c13, hg13, hr13, hm13, hp13⟩ := vols_getC (HV _ (Below.refl _ _)) (k := k) (by omega)
   refine wl_ <| i_ H11 rfl (dd_at rfl (H11.ev 15 rfl) ((hr13 _ HSL3.below).1 0 _ rfl) Tryd.underlying9 rfl) fun a12 H12 => wl_ <| p_ H12 rfl rfl fun a14 H14 => ?_
   clear H11 a11 H12 a12
   by_cases hc16 : p13 = q
   ·
    refine wl_ <| i_ H14 rfl (v := .bool true) (dd_eqs rfl (H14.ev 16 rfl) (H14.ev 17 rfl) (sbeq_t hc16)) fun a17 H17 => ln_ <| nx <| ct_ H17 rfl <| sq_ <| rl_ <| q_ H17 2 rfl fun a18 H18 => ln_ <| nx <| wp_ret <| br_ <| tr <| tr <| br_ <| tr <| ret_run H18.env0 (res_t Tryd.results18 (H18.get 4 rfl)) <| ?_
    clear H14 a14 H17 a17
    exact ⟨by rw [findI_some hg13 hc16 hno], HSL3.below⟩
   ·
    refine wl_ <| i_ H14 rfl (v := .bool false) (dd_eqs rfl (H14.ev 16 rfl) (H14.ev 17 rfl) (sbeq_f hc16)) fun a19 H19 => ln_ <| nx <| cf_ H19 rfl <| wp_skip <| bn <| nx <| rl_ <| wl_ <| p_ H19 rfl rfl fun a20 H20 => wl_ <| i_ H20 rfl (v := .int .i64 (k + 1)) (dd_ari rfl (H20.ev 10 rfl) rfl rfl (i64_of (by first | omega | (have := bd_lo; omega)) (by omega))) fun a21 H21 => wl_ <| p_ H21 rfl rfl fun a22 H22 => ln_ <| ?_
    clear H14 a14 H19 a19 H20 a20 H21 a21
    refine nx ⟨k + 1, ⟨(by omega), (step_no hno hg13 hc16), H22.sel [1, 0, 5] rfl, ss HSL3 []⟩, (by omega)⟩
  ·
   refine wl_ <| i_ H5 rfl (dd_cmp rfl (H5.ev 6 rfl) (H5.ev 8 rfl) (lt_f hc7)) fun a23 H23 => ln_ <| nx <| cf_ H23 rfl <| wp_exit <| tx <| tx <| bx <| nx <| sq_ <| rl_ <| wl_ <| p_ H23 rfl rfl fun a24 H24 => ln_ <| nx <| wp_ret <| ret_run H24.env0 (res_t Tryd.results18 (H24.get 4 rfl)) <| ?_
   clear H5 a5 H23 a23
   exact ⟨by rw [findI_none (fun j hj => hno j (by omega))], HSL3.below⟩
theorem rfind_any (A : Option Addr) (n c : Nat) (q : List (BitVec 8)) (l : List Tv) (w : World) (hv : VolsAt w (.slice A n c) (volL l)) (hn : n ≤ 1000000) :
    Calls Tryd.prog 18 #[.string (strB q), .slice A n c] w fun e w' => e = .returned (.int .i64 (findI q l)) ∧ Below w.heap.size w w' := by
  by_cases h0 : n = 0
  · subst h0
    have hln : l.length = 0 := by rw [← len_volL]; exact vols_len hv
    have HS := St.nil w noF
    refine enter_en Tryd.func18 rfl Tryd.ntmps18 (Nat.le_of_ble_eq_true rfl) fun a0 (HA0 : En 20 [(0, .string (strB q)), (1, .slice A 0 c)] a0) => ?_
    refine sq_ <| rl_ <| wl_ <| p_ HA0 rfl rfl fun a1 H1 => ln_ <| nx <| sq_ <| sq_ <| rl_ <| wl_ <| p_ H1 rfl rfl fun a2 H2 => ln_ <| nx <| wp_block <| wp_unr 1 <| unr_go <| sq_ <| sq_ <| rl_ <| q_ H2 2 rfl fun a3 H3 => wl_ <| i_ H3 rfl (v := .int .i64 0) (dd_len rfl (H3.ev 7 rfl) Tryd.underlying22) fun a4 H4 => wl_ <| i_ H4 rfl (dd_cmp rfl (H4.ev 6 rfl) (H4.ev 8 rfl) (lt_f (by decide))) fun a5 H5 => ln_ <| nx <| cf_ H5 rfl <| wp_exit <| tx <| tx <| bx <| nx <| sq_ <| rl_ <| wl_ <| p_ H5 rfl rfl fun a6 H6 => ln_ <| nx <| wp_ret <| ret_run H6.env0 (res_t Tryd.results18 (H6.get 4 rfl)) <| ?_
    clear HA0 a0 H1 a1 H2 a2 H3 a3 H4 a4 H5 a5
    exact ⟨by rw [findI_none (fun j hj => absurd hj (by omega))], HS.below⟩
  · obtain ⟨b, o, rfl⟩ := vols_some hv (by omega)
    exact rfind_pos b o n c q l w hv hn
theorem met_size {M : List Bool} {F : List Int} (h : Met M F) : (metA M).size = 12 := by unfold metA; simp [h.1]
theorem met_fit {M : List Bool} {F : List Int} (h : Met M F) {i : Nat} (hi : i < 12) : Nat.blt i (metA M).size = true := by rw [met_size h]; exact Nat.ble_eq_true_of_le hi
theorem met_no {M : List Bool} {F : List Int} (h : Met M F) {x : Int} (h0 : 0 ≤ x) (h1 : x < 12) (hm : M.getD x.toNat false = false) : x ∉ F := fun hx => by
  have := (met_mem h h0 h1).2 hx
  rw [hm] at this; cases this
theorem flat_next {l : List Tv} {k j : Nat} {p : List (BitVec 8)} {L : List Int} (h : l[k]? = some (p, L)) (hj : L.length ≤ j) : flatB (l.take k) ++ L.take j = flatB (l.take (k + 1)) := by
  rw [flatB_take h, List.take_of_length_le hj]
theorem flat_step {F L : List Int} {j : Nat} (hj : j < L.length) : F ++ L.take j ++ [L.getD j 0] = F ++ L.take (j + 1) := by
  rw [List.take_add_one, List.getElem?_eq_getElem hj, List.getD_eq_getElem?_getD, List.getElem?_eq_getElem hj, ← List.append_assoc]; rfl
set_option maxHeartbeats 1600000 in
theorem rgoodt_pos (b o n c : Nat) (l : List Tv) (w : World) (hv : VolsAt w (.slice (some ⟨b, o, none⟩) n c) (volL l)) (hn : n ≤ 1000000) :
    Calls Tryd.prog 15 #[.slice (some ⟨b, o, none⟩) n c] w fun e w' => e = .returned (.bool (goodT l)) ∧ Below w.heap.size w w' := by
  have HS := St.nil w noF
  have HV : ∀ W, Below w.heap.size w W → VolsAt W (.slice (some ⟨b, o, none⟩) n c) (volL l) := fun W hb => hv.below hb (Nat.le_refl _)
  have hln : l.length = n := by rw [← len_volL]; exact vols_len hv
  refine enter_en Tryd.func15 rfl Tryd.ntmps15 (Nat.le_of_ble_eq_true rfl) fun a0 (HA0 : En 71 [(0, .slice (some ⟨b, o, none⟩) n c)] a0) => ?_
  refine sq_ <| rl_ <| wl_ <| p_ HA0 rfl rfl fun a1 H1 => ln_ <| nx <| sq_ <| sq_ <| rl_ <| wl_ <| p_ H1 rfl rfl fun a2 H2 => wl_ <| i_ H2 rfl (v := .int .i64 n) (dd_len rfl (H2.ev 8 rfl) Tryd.underlying22) fun a3 H3 => ?_
  clear HA0 a0 H1 a1 H2 a2
  by_cases hc5 : (3 : Int) < n
  ·
   refine wl_ <| i_ H3 rfl (dd_cmp rfl (H3.ev 9 rfl) rfl (gt_t hc5)) fun a6 H6 => ln_ <| nx <| ct_ H6 rfl <| sq_ <| rl_ <| wl_ <| p_ H6 rfl rfl fun a7 H7 => ln_ <| nx <| wp_ret <| tr <| ret_run H7.env0 (res_t Tryd.results15 (H7.get 2 rfl)) <| ?_
   clear H3 a3 H6 a6
   exact ⟨by rw [goodT_long (by omega)], HS.below⟩
  ·
   refine wl_ <| i_ H3 rfl (dd_cmp rfl (H3.ev 9 rfl) rfl (gt_f hc5)) fun a8 H8 => ln_ <| nx <| cf_ H8 rfl <| wp_skip <| nx <| sq_ <| rl_ <| wl_ <| n_ H8 rfl (fun _ h => dd_new HS #[.bool false, .bool false, .bool false, .bool false, .bool false, .bool false, .bool false, .bool false, .bool false, .bool false, .bool false, .bool false] rfl (z := .agg #[.bool false, .bool false, .bool false, .bool false, .bool false, .bool false, .bool false, .bool false, .bool false, .bool false, .bool false, .bool false]) (by kernel_rfl) rfl h) fun g3 W9 HS9 a9 H9 => ln_ <| nx <| sq_ <| sq_ <| rl_ <| wl_ <| p_ H9 rfl rfl fun a10 H10 => ln_ <| nx <| wp_block <| ?_
   clear H3 a3 HS H8 a8 H9 a9
   refine wp_loopG (ι := Nat) (fun k a9 w9 => ∃ M : List Bool, (k ≤ n) ∧ (∀ j, j < k → ∀ x, l[j]? = some x → okT l j x = true) ∧ (Met M (flatB (l.take k))) ∧ (okF (flatB (l.take k))) ∧ En 71 [(4, .int .i64 k), (3, .pointer (some ⟨g3, 0, none⟩)), (0, .slice (some ⟨b, o, none⟩) n c)] a9 ∧ St w noF [⟨g3, 58, metA M⟩] w9) (fun k => n - k) (0) ⟨(List.replicate 12 false), Nat.zero_le _, (fun j hj => absurd hj (Nat.not_lt_zero _)), met_nil, ((cntF_ok []).1 (by decide)), H10.sel [0, 3, 4] rfl, ss HS9 [0]⟩ ?_
   clear H10 a10 HS9
   rintro k aL11 wL11 ⟨M, hk, hok, hM, hF, HL11, HSL11⟩
   refine sq_ <| sq_ <| rl_ <| q_ HL11 2 rfl fun a12 H12 => wl_ <| i_ H12 rfl (v := .int .i64 n) (dd_len rfl (H12.ev 12 rfl) Tryd.underlying22) fun a13 H13 => ?_
   clear HL11 aL11 H12 a12
   by_cases hc15 : (k : Int) < n
   ·
    refine wl_ <| i_ H13 rfl (dd_cmp rfl (H13.ev 11 rfl) (H13.ev 13 rfl) (lt_t hc15)) fun a16 H16 => ln_ <| nx <| ct_ H16 rfl <| wp_skip <| nx <| sq_ <| wp_block <| sq_ <| rl_ <| q_ H16 2 rfl fun a17 H17 => wl_ <| i_ H17 rfl (xSo 2 (o + k * 2) rfl (H17.ev 17 rfl) (H17.ev 18 rfl)) fun a18 H18 => ?_
    clear H13 a13 H16 a16 H17 a17
    obtain ⟨p20, L20, B20, m20, c20, hg20, hr20, hm20, hp20⟩ := vols_getC (HV _ (Below.refl _ _)) (k := k) (by omega)
    refine wl_ <| i_ H18 rfl (v := .agg #[.string (strB p20), .slice B20 m20 c20]) (dd_atN rfl (H18.ev 19 rfl) (hr20 _ HSL11.below).1 Tryd.underlying45 rfl (by kernel_rfl)) fun a19 H19 => wl_ <| n_ H19 rfl (fun _ h => dd_new HSL11 #[.string (⟨#[]⟩), .slice none 0 0] rfl (z := .agg #[.string (⟨#[]⟩), .slice none 0 0]) (by kernel_rfl) rfl h) fun g5 W21 HS21 a21 H21 => wl_ <| t_ rfl (fun _ h => dd_setrow HS21 1 rfl rfl (H21.ev 5 rfl) (H21.ev 20 rfl) (by kernel_rfl) (rfl : #[.string (strB p20), .slice B20 m20 c20].size = 2) (rfl : #[.string (⟨#[]⟩), .slice none 0 0].size = 2) (one_l (ao_cons rfl (ao_cons rfl ao_nil))) h) fun W22 HS22 => ln_ <| nx <| sq_ <| sq_ <| rl_ <| wl_ <| i_ H21 rfl (xf 0 0 rfl (H21.ev 5 rfl)) fun a23 H23 => wl_ <| i_ H23 rfl (dd_get HS22 1 0 rfl rfl (H23.ev 21 rfl) rfl Tryd.underlying9 rfl) fun a24 H24 => wl_ <| n_ H24 rfl (fun _ h => dd_lits HS22 #[.string (strB p20)] rfl (ps := [(0, .string (strB p20))]) (pr1 (H24.ev 22 rfl) (pr0)) (z := .string (⟨#[]⟩)) (sz := 1) Tryd.underlying60 (by kernel_rfl) rfl rfl (by kernel_rfl) h) fun g23 W25 HS25 a25 H25 => ?_
    clear H18 a18 HSL11 H19 a19 HS21 H21 a21 H23 a23 HS22 H24 a24
    cases hb27 : goodN p20
    case false =>
     refine wl_ <| ic H25 rfl (v := .bool false) (dc_ Tryd.func25 rfl (args1 (H25.ev 23 rfl)) (refgoodn_any [p20] _ W25 (strs_row (HS25.row 2 rfl) hp20) (by unfold maxLen; simp)) (fun _ w9 h9 => ⟨_, h9.1, by rw [goodNs_oneT, hb27], h9.2.symm⟩)) fun a28 H28 => wl_ <| i_ H28 rfl (v := .bool true) (dd_nt rfl (H28.ev 24 rfl) rfl) fun a29 H29 => wl_ <| p_ H29 rfl rfl fun a30 H30 => wl_ <| k_ H30 (wg_ H30 rfl rfl rfl rfl) rfl fun a31 H31 => wl_ <| k_ H31 (wg_ H31 rfl rfl rfl rfl) rfl fun a32 H32 => wl_ <| k_ H32 (wg_ H32 rfl rfl rfl rfl) rfl fun a33 H33 => wl_ <| k_ H33 (wg_ H33 rfl rfl rfl rfl) rfl fun a34 H34 => wl_ <| k_ H34 (wg_ H34 rfl rfl rfl rfl) rfl fun a35 H35 => ?_
     clear H25 a25 H28 a28 H29 a29 H30 a30 H31 a31 H32 a32 H33 a33
     refine wl_ <| k_ H35 (wg_ H35 rfl rfl rfl rfl) rfl fun a36 H36 => q_ H36 2 rfl fun a37 H37 => wl_ <| k_ H37 (wg_ H37 rfl rfl rfl rfl) rfl fun a38 H38 => wl_ <| k_ H38 (wg_ H38 rfl rfl rfl rfl) rfl fun a39 H39 => wl_ <| k_ H39 (wg_ H39 rfl rfl rfl rfl) rfl fun a40 H40 => wl_ <| k_ H40 (wg_ H40 rfl rfl rfl rfl) rfl fun a41 H41 => q_ H41 2 rfl fun a42 H42 => wl_ <| k_ H42 (wg_ H42 rfl rfl rfl rfl) rfl fun a43 H43 => ?_
     clear H34 a34 H35 a35 H36 a36 H37 a37 H38 a38 H39 a39 H40 a40 H41 a41
     refine wl_ <| k_ H43 (wg_ H43 rfl rfl rfl rfl) rfl fun a44 H44 => wl_ <| k_ H44 (wg_ H44 rfl rfl rfl rfl) rfl fun a45 H45 => wl_ <| k_ H45 (wg_ H45 rfl rfl rfl rfl) rfl fun a46 H46 => wl_ <| p_ H46 rfl rfl fun a47 H47 => ln_ <| ?_
     clear H42 a42 H43 a43 H44 a44 H45 a45 H46 a46
     have H48 := H47.sel [0, 3, 4, 5, 45] rfl
     refine nx <| ct_ H48 rfl <| sq_ <| rl_ <| wl_ <| p_ H48 rfl rfl fun a49 H49 => ln_ <| nx <| wp_ret <| tr <| br_ <| tr <| tr <| br_ <| tr <| ret_run H49.env0 (res_t Tryd.results15 (H49.get 2 rfl)) <| ?_
     clear H47 H48 a47
     exact ⟨by rw [goodT_no hg20 (okT_no (fun h => by rw [hb27] at h; cases h.1))], HS25.below⟩
    case true =>
     refine wl_ <| ic H25 rfl (v := .bool true) (dc_ Tryd.func25 rfl (args1 (H25.ev 23 rfl)) (refgoodn_any [p20] _ W25 (strs_row (HS25.row 2 rfl) hp20) (by unfold maxLen; simp)) (fun _ w9 h9 => ⟨_, h9.1, by rw [goodNs_oneT, hb27], h9.2.symm⟩)) fun a50 H50 => wl_ <| i_ H50 rfl (v := .bool false) (dd_nt rfl (H50.ev 24 rfl) rfl) fun a51 H51 => wl_ <| p_ H51 rfl rfl fun a52 H52 => wl_ <| ig H52 (wg_ H52 rfl rfl rfl rfl) rfl (xf 0 0 rfl (H52.ev 5 rfl)) fun a53 H53 => wl_ <| ig H53 (wg_ H53 rfl rfl rfl rfl) rfl (dd_get HS25 1 0 rfl rfl (H53.ev 27 rfl) rfl Tryd.underlying9 rfl) fun a54 H54 => wl_ <| ig H54 (wg_ H54 rfl rfl rfl rfl) rfl (dd_mv rfl (H54.ev 0 rfl)) fun a55 H55 => wl_ <| cg H55 (wg_ H55 rfl rfl rfl rfl) rfl HS25 (dcs Tryd.func18 rfl (args2 (H55.ev 28 rfl) (H55.ev 29 rfl)) (rfind_any _ _ _ p20 l W25 (HV _ HS25.below) hn) (.int .i64 (findI p20 l))) fun W56 HS56 a56 H56 => wl_ <| ig H56 (wg_ H56 rfl rfl rfl rfl) rfl (dd_mv rfl (H56.ev 4 rfl)) fun a57 H57 => ?_
     clear H25 a25 H50 a50 H51 a51 H52 a52 H53 a53 H54 a54 H55 a55 HS25
     clear H56 a56
     by_cases hc59 : (findI p20 l : Int) = k
     ·
      refine wl_ <| ig H57 (wg_ H57 rfl rfl rfl rfl) rfl (dd_cmp rfl (H57.ev 30 rfl) (H57.ev 31 rfl) (ne_f hc59)) fun a60 H60 => q_ H60 2 rfl fun a61 H61 => wl_ <| ig H61 (wg_ H61 rfl rfl rfl rfl) rfl (xf 1 1 rfl (H61.ev 5 rfl)) fun a62 H62 => wl_ <| ig H62 (wg_ H62 rfl rfl rfl rfl) rfl (dd_get HS56 1 1 rfl rfl (H62.ev 35 rfl) rfl Tryd.underlying43 rfl) fun a63 H63 => wl_ <| ig H63 (wg_ H63 rfl rfl rfl rfl) rfl (v := .int .i64 m20) (dd_len rfl (H63.ev 36 rfl) Tryd.underlying43) fun a64 H64 => ?_
      clear H57 a57 H60 a60 H61 a61 H62 a62 H63 a63
      by_cases hc66 : (m20 : Int) < 1
      ·
       refine wl_ <| ig H64 (wg_ H64 rfl rfl rfl rfl) rfl (dd_cmp rfl (H64.ev 37 rfl) rfl (lt_t hc66)) fun a67 H67 => q_ H67 2 rfl fun a68 H68 => wl_ <| k_ H68 (wg_ H68 rfl rfl rfl rfl) rfl fun a69 H69 => wl_ <| k_ H69 (wg_ H69 rfl rfl rfl rfl) rfl fun a70 H70 => wl_ <| k_ H70 (wg_ H70 rfl rfl rfl rfl) rfl fun a71 H71 => wl_ <| k_ H71 (wg_ H71 rfl rfl rfl rfl) rfl fun a72 H72 => wl_ <| p_ H72 rfl rfl fun a73 H73 => ln_ <| ?_
       clear H64 a64 H67 a67 H68 a68 H69 a69 H70 a70 H71 a71 H72 a72
       have H74 := H73.sel [0, 3, 4, 5, 45] rfl
       refine nx <| ct_ H74 rfl <| sq_ <| rl_ <| wl_ <| p_ H74 rfl rfl fun a75 H75 => ln_ <| nx <| wp_ret <| tr <| br_ <| tr <| tr <| br_ <| tr <| ret_run H75.env0 (res_t Tryd.results15 (H75.get 2 rfl)) <| ?_
       clear H73 H74 a73
       exact ⟨by rw [goodT_no hg20 (okT_no (fun h => by obtain ⟨h1, h2, h3, h4⟩ := h; simp only at h1 h2 h3 h4; omega))], HS56.below⟩
      ·
       refine wl_ <| ig H64 (wg_ H64 rfl rfl rfl rfl) rfl (dd_cmp rfl (H64.ev 37 rfl) rfl (lt_f hc66)) fun a76 H76 => q_ H76 2 rfl fun a77 H77 => wl_ <| ig H77 (wg_ H77 rfl rfl rfl rfl) rfl (xf 1 1 rfl (H77.ev 5 rfl)) fun a78 H78 => wl_ <| ig H78 (wg_ H78 rfl rfl rfl rfl) rfl (dd_get HS56 1 1 rfl rfl (H78.ev 41 rfl) rfl Tryd.underlying43 rfl) fun a79 H79 => wl_ <| ig H79 (wg_ H79 rfl rfl rfl rfl) rfl (v := .int .i64 m20) (dd_len rfl (H79.ev 42 rfl) Tryd.underlying43) fun a80 H80 => ?_
       clear H64 a64 H76 a76 H77 a77 H78 a78 H79 a79
       by_cases hc82 : (4 : Int) < m20
       ·
        refine wl_ <| ig H80 (wg_ H80 rfl rfl rfl rfl) rfl (dd_cmp rfl (H80.ev 43 rfl) rfl (gt_t hc82)) fun a83 H83 => wl_ <| p_ H83 rfl rfl fun a84 H84 => ln_ <| ?_
        clear H80 a80 H83 a83
        have H85 := H84.sel [0, 3, 4, 5, 45] rfl
        refine nx <| ct_ H85 rfl <| sq_ <| rl_ <| wl_ <| p_ H85 rfl rfl fun a86 H86 => ln_ <| nx <| wp_ret <| tr <| br_ <| tr <| tr <| br_ <| tr <| ret_run H86.env0 (res_t Tryd.results15 (H86.get 2 rfl)) <| ?_
        clear H84 H85 a84
        exact ⟨by rw [goodT_no hg20 (okT_no (fun h => by obtain ⟨h1, h2, h3, h4⟩ := h; simp only at h1 h2 h3 h4; omega))], HS56.below⟩
       ·
        refine wl_ <| ig H80 (wg_ H80 rfl rfl rfl rfl) rfl (dd_cmp rfl (H80.ev 43 rfl) rfl (gt_f hc82)) fun a87 H87 => wl_ <| p_ H87 rfl rfl fun a88 H88 => ln_ <| ?_
        clear H80 a80 H87 a87
        have H89 := H88.sel [0, 3, 4, 5, 45] rfl
        refine nx <| cf_ H89 rfl <| wp_skip <| nx <| sq_ <| rl_ <| wl_ <| p_ H89 rfl rfl fun a90 H90 => ln_ <| nx <| wp_block <| ?_
        clear H88 H89 a88
        refine wp_loopG (ι := Nat) (fun j a9 w9 => ∃ M2 : List Bool, (j ≤ m20) ∧ (Met M2 (flatB (l.take k) ++ L20.take j)) ∧ (okF (flatB (l.take k) ++ L20.take j)) ∧ En 71 [(6, .int .i64 j), (5, .pointer (some ⟨g5, 0, none⟩)), (4, .int .i64 k), (3, .pointer (some ⟨g3, 0, none⟩)), (0, .slice (some ⟨b, o, none⟩) n c)] a9 ∧ St w noF [⟨g3, 58, metA M2⟩, ⟨g5, 45, #[.string (strB p20), .slice B20 m20 c20]⟩, ⟨g23, 9, #[.string (strB p20)]⟩] w9) (fun j => m20 - j) (0) ⟨M, Nat.zero_le _, (by rw [List.take_zero, List.append_nil]; exact hM), (by rw [List.take_zero, List.append_nil]; exact hF), H90.sel [0, 3, 4, 5, 6] rfl, ss HS56 [0, 1, 2]⟩ ?_
        clear H90 a90 HS56
        rintro j aL91 wL91 ⟨M2, hj, hM2, hF2, HL91, HSL91⟩
        refine sq_ <| sq_ <| rl_ <| wl_ <| p_ HL91 rfl rfl fun a92 H92 => wl_ <| i_ H92 rfl (xf 1 1 rfl (H92.ev 5 rfl)) fun a93 H93 => wl_ <| i_ H93 rfl (dd_get HSL91 1 1 rfl rfl (H93.ev 47 rfl) rfl Tryd.underlying43 rfl) fun a94 H94 => wl_ <| i_ H94 rfl (v := .int .i64 m20) (dd_len rfl (H94.ev 48 rfl) Tryd.underlying43) fun a95 H95 => ?_
        clear HL91 aL91 H92 a92 H93 a93 H94 a94
        by_cases hc97 : (j : Int) < m20
        ·
         refine wl_ <| i_ H95 rfl (dd_cmp rfl (H95.ev 46 rfl) (H95.ev 49 rfl) (lt_t hc97)) fun a98 H98 => ln_ <| nx <| ct_ H98 rfl <| wp_skip <| nx <| sq_ <| wp_block <| sq_ <| rl_ <| wl_ <| i_ H98 rfl (xf 1 1 rfl (H98.ev 5 rfl)) fun a99 H99 => wl_ <| i_ H99 rfl (dd_get HSL91 1 1 rfl rfl (H99.ev 53 rfl) rfl Tryd.underlying43 rfl) fun a100 H100 => wl_ <| p_ H100 rfl rfl fun a101 H101 => ?_
         clear H95 a95 H98 a98 H99 a99 H100 a100
         obtain ⟨bi20, oi20, hB20⟩ := ints_addr (hr20 _ (Below.refl _ _)).2 (by omega)
         refine wl_ <| i_ H101 rfl (dd_idxS (sz := 1) (j := oi20 + j) rfl (sl_at (H101.ev 54 rfl) hB20) (H101.ev 55 rfl) (by kernel_rfl) (by omega) (by omega) (by omega)) fun a102 H102 => wl_ <| i_ H102 rfl (dd_at rfl (H102.ev 56 rfl) (ints_atB (hr20 _ HSL91.below).2 hB20 j (by omega)) Tryd.underlying3 rfl) fun a103 H103 => wl_ <| p_ H103 rfl rfl fun a104 H104 => ln_ <| nx <| sq_ <| sq_ <| rl_ <| wl_ <| p_ H104 rfl rfl fun a105 H105 => ?_
         clear H101 a101 H102 a102 H103 a103 H104 a104
         by_cases hc107 : (L20.getD j 0 : Int) < 1
         ·
          refine wl_ <| i_ H105 rfl (dd_cmp rfl (H105.ev 58 rfl) rfl (lt_t hc107)) fun a108 H108 => wl_ <| p_ H108 rfl rfl fun a109 H109 => wl_ <| k_ H109 (wg_ H109 rfl rfl rfl rfl) rfl fun a110 H110 => wl_ <| k_ H110 (wg_ H110 rfl rfl rfl rfl) rfl fun a111 H111 => q_ H111 2 rfl fun a112 H112 => wl_ <| k_ H112 (wg_ H112 rfl rfl rfl rfl) rfl fun a113 H113 => wl_ <| k_ H113 (wg_ H113 rfl rfl rfl rfl) rfl fun a114 H114 => wl_ <| k_ H114 (wg_ H114 rfl rfl rfl rfl) rfl fun a115 H115 => ?_
          clear H105 a105 H108 a108 H109 a109 H110 a110 H111 a111 H112 a112 H113 a113
          refine wl_ <| p_ H115 rfl rfl fun a116 H116 => ln_ <| ?_
          clear H114 a114 H115 a115
          have H117 := H116.sel [0, 3, 4, 5, 6, 7, 68] rfl
          refine nx <| ct_ H117 rfl <| sq_ <| rl_ <| wl_ <| p_ H117 rfl rfl fun a118 H118 => ln_ <| nx <| wp_ret <| tr <| br_ <| tr <| tr <| br_ <| br_ <| tr <| tr <| br_ <| tr <| ret_run H118.env0 (res_t Tryd.results15 (H118.get 2 rfl)) <| ?_
          clear H116 H117 a116
          exact ⟨by rw [goodT_noF hg20 (okF_bad (fun h9 => by omega)) (show j < L20.length by omega)], HSL91.below⟩
         ·
          refine wl_ <| i_ H105 rfl (dd_cmp rfl (H105.ev 58 rfl) rfl (lt_f hc107)) fun a119 H119 => wl_ <| p_ H119 rfl rfl fun a120 H120 => wl_ <| ig H120 (wg_ H120 rfl rfl rfl rfl) rfl (dd_mv rfl (H120.ev 7 rfl)) fun a121 H121 => ?_
          clear H105 a105 H119 a119 H120 a120
          by_cases hc123 : (12 : Int) ≤ L20.getD j 0
          ·
           refine wl_ <| ig H121 (wg_ H121 rfl rfl rfl rfl) rfl (dd_cmp rfl (H121.ev 61 rfl) rfl (ge_t hc123)) fun a124 H124 => q_ H124 2 rfl fun a125 H125 => wl_ <| k_ H125 (wg_ H125 rfl rfl rfl rfl) rfl fun a126 H126 => wl_ <| k_ H126 (wg_ H126 rfl rfl rfl rfl) rfl fun a127 H127 => wl_ <| k_ H127 (wg_ H127 rfl rfl rfl rfl) rfl fun a128 H128 => wl_ <| p_ H128 rfl rfl fun a129 H129 => ln_ <| ?_
           clear H121 a121 H124 a124 H125 a125 H126 a126 H127 a127 H128 a128
           have H130 := H129.sel [0, 3, 4, 5, 6, 7, 68] rfl
           refine nx <| ct_ H130 rfl <| sq_ <| rl_ <| wl_ <| p_ H130 rfl rfl fun a131 H131 => ln_ <| nx <| wp_ret <| tr <| br_ <| tr <| tr <| br_ <| br_ <| tr <| tr <| br_ <| tr <| ret_run H131.env0 (res_t Tryd.results15 (H131.get 2 rfl)) <| ?_
           clear H129 H130 a129
           exact ⟨by rw [goodT_noF hg20 (okF_bad (fun h9 => by omega)) (show j < L20.length by omega)], HSL91.below⟩
          ·
           refine wl_ <| ig H121 (wg_ H121 rfl rfl rfl rfl) rfl (dd_cmp rfl (H121.ev 61 rfl) rfl (ge_f hc123)) fun a132 H132 => q_ H132 2 rfl fun a133 H133 => wl_ <| ig H133 (wg_ H133 rfl rfl rfl rfl) rfl (dd_mv rfl (H133.ev 7 rfl)) fun a134 H134 => wl_ <| ig H134 (wg_ H134 rfl rfl rfl rfl) rfl (xAo 12 1 (Int.toNat (L20.getD j 0)) rfl (H134.ev 3 rfl) (H134.ev 65 rfl)) fun a135 H135 => ?_
           clear H121 a121 H132 a132 H133 a133 H134 a134
           cases hb137 : M2.getD (Int.toNat (L20.getD j 0)) false
           case false =>
            refine wl_ <| ig H135 (wg_ H135 rfl rfl rfl rfl) rfl (v := .bool false) (dd_get HSL91 0 (Int.toNat (L20.getD j 0)) rfl rfl (H135.ev 66 rfl) ((met_get hM2 (Int.toNat (L20.getD j 0)) (by omega)).trans (by rw [hb137])) Tryd.underlying4 rfl) fun a138 H138 => wl_ <| p_ H138 rfl rfl fun a139 H139 => ln_ <| ?_
            clear H135 a135 H138 a138
            have H140 := H139.sel [0, 3, 4, 5, 6, 7, 68] rfl
            refine nx <| cf_ H140 rfl <| wp_skip <| nx <| rl_ <| wl_ <| p_ H140 rfl rfl fun a141 H141 => wl_ <| i_ H141 rfl (xAo 12 1 (Int.toNat (L20.getD j 0)) rfl (H141.ev 3 rfl) (H141.ev 69 rfl)) fun a142 H142 => wl_ <| t_ rfl (S := [⟨g3, 58, metA (M2.set (Int.toNat (L20.getD j 0)) true)⟩, ⟨g5, 45, #[.string (strB p20), .slice B20 m20 c20]⟩, ⟨g23, 9, #[.string (strB p20)]⟩]) (fun _ h => dd_put HSL91 0 (Int.toNat (L20.getD j 0)) rfl rfl (H142.ev 70 rfl) rfl (by kernel_rfl) rfl rfl (met_fit hM2 (by omega)) (met_put M2 _) h) fun W143 HS143 => ln_ <| bn <| nx <| rl_ <| wl_ <| p_ H142 rfl rfl fun a144 H144 => wl_ <| i_ H144 rfl (v := .int .i64 (j + 1)) (dd_ari rfl (H144.ev 51 rfl) rfl rfl (i64_of (by first | omega | (have := bd_lo; omega)) (by omega))) fun a145 H145 => wl_ <| p_ H145 rfl rfl fun a146 H146 => ln_ <| ?_
            clear H139 H140 a139 H141 a141 HSL91 H142 a142 H144 a144 H145 a145
            refine nx ⟨j + 1, ⟨(M2.set (Int.toNat (L20.getD j 0)) true), (by omega), (by rw [← flat_step (show j < L20.length by omega)]; exact met_step hM2 (by omega) (by omega)), (by rw [← flat_step (show j < L20.length by omega)]; exact okF_snoc hF2 (met_no hM2 (by omega) (by omega) hb137) (by omega) (by omega)), H146.sel [0, 3, 4, 5, 6] rfl, ss HS143 [0, 1, 2]⟩, (by omega)⟩
           case true =>
            refine wl_ <| ig H135 (wg_ H135 rfl rfl rfl rfl) rfl (v := .bool true) (dd_get HSL91 0 (Int.toNat (L20.getD j 0)) rfl rfl (H135.ev 66 rfl) ((met_get hM2 (Int.toNat (L20.getD j 0)) (by omega)).trans (by rw [hb137])) Tryd.underlying4 rfl) fun a147 H147 => wl_ <| p_ H147 rfl rfl fun a148 H148 => ln_ <| ?_
            clear H135 a135 H147 a147
            have H149 := H148.sel [0, 3, 4, 5, 6, 7, 68] rfl
            refine nx <| ct_ H149 rfl <| sq_ <| rl_ <| wl_ <| p_ H149 rfl rfl fun a150 H150 => ln_ <| nx <| wp_ret <| tr <| br_ <| tr <| tr <| br_ <| br_ <| tr <| tr <| br_ <| tr <| ret_run H150.env0 (res_t Tryd.results15 (H150.get 2 rfl)) <| ?_
            clear H148 H149 a148
            exact ⟨by rw [goodT_noF hg20 (okF_bad (fun h9 => h9.2 ((met_mem hM2 (by omega) (by omega)).1 hb137))) (show j < L20.length by omega)], HSL91.below⟩
        ·
         refine wl_ <| i_ H95 rfl (dd_cmp rfl (H95.ev 46 rfl) (H95.ev 49 rfl) (lt_f hc97)) fun a151 H151 => ln_ <| nx <| cf_ H151 rfl <| wp_exit <| tx <| tx <| bx <| bn <| nx <| rl_ <| wl_ <| p_ H151 rfl rfl fun a152 H152 => wl_ <| i_ H152 rfl (v := .int .i64 (k + 1)) (dd_ari rfl (H152.ev 15 rfl) rfl rfl (i64_of (by first | omega | (have := bd_lo; omega)) (by omega))) fun a153 H153 => wl_ <| p_ H153 rfl rfl fun a154 H154 => ln_ <| ?_
         clear H95 a95 H151 a151 H152 a152 H153 a153
         refine nx ⟨k + 1, ⟨M2, (by omega), (step_ok hok hg20 (okT_of hb27 hc59 (by simp only; omega) (by simp only; omega))), (by rw [← flat_next hg20 (show L20.length ≤ j by omega)]; exact hM2), (by rw [← flat_next hg20 (show L20.length ≤ j by omega)]; exact hF2), H154.sel [0, 3, 4] rfl, ss HSL91 [0]⟩, (by omega)⟩
     ·
      refine wl_ <| ig H57 (wg_ H57 rfl rfl rfl rfl) rfl (dd_cmp rfl (H57.ev 30 rfl) (H57.ev 31 rfl) (ne_t hc59)) fun a155 H155 => q_ H155 2 rfl fun a156 H156 => wl_ <| k_ H156 (wg_ H156 rfl rfl rfl rfl) rfl fun a157 H157 => wl_ <| k_ H157 (wg_ H157 rfl rfl rfl rfl) rfl fun a158 H158 => wl_ <| k_ H158 (wg_ H158 rfl rfl rfl rfl) rfl fun a159 H159 => wl_ <| k_ H159 (wg_ H159 rfl rfl rfl rfl) rfl fun a160 H160 => q_ H160 2 rfl fun a161 H161 => wl_ <| k_ H161 (wg_ H161 rfl rfl rfl rfl) rfl fun a162 H162 => ?_
      clear H57 a57 H155 a155 H156 a156 H157 a157 H158 a158 H159 a159 H160 a160
      refine wl_ <| k_ H162 (wg_ H162 rfl rfl rfl rfl) rfl fun a163 H163 => wl_ <| k_ H163 (wg_ H163 rfl rfl rfl rfl) rfl fun a164 H164 => wl_ <| k_ H164 (wg_ H164 rfl rfl rfl rfl) rfl fun a165 H165 => wl_ <| p_ H165 rfl rfl fun a166 H166 => ln_ <| ?_
      clear H161 a161 H162 a162 H163 a163 H164 a164 H165 a165
      have H167 := H166.sel [0, 3, 4, 5, 45] rfl
      refine nx <| ct_ H167 rfl <| sq_ <| rl_ <| wl_ <| p_ H167 rfl rfl fun a168 H168 => ln_ <| nx <| wp_ret <| tr <| br_ <| tr <| tr <| br_ <| tr <| ret_run H168.env0 (res_t Tryd.results15 (H168.get 2 rfl)) <| ?_
      clear H166 H167 a166
      exact ⟨by rw [goodT_no hg20 (okT_no (fun h => by obtain ⟨h1, h2, h3, h4⟩ := h; simp only at h1 h2 h3 h4; omega))], HS56.below⟩
   ·
    refine wl_ <| i_ H13 rfl (dd_cmp rfl (H13.ev 11 rfl) (H13.ev 13 rfl) (lt_f hc15)) fun a169 H169 => ln_ <| nx <| cf_ H169 rfl <| wp_exit <| tx <| tx <| bx <| nx <| sq_ <| rl_ <| wl_ <| p_ H169 rfl rfl fun a170 H170 => ln_ <| nx <| wp_ret <| ret_run H170.env0 (res_t Tryd.results15 (H170.get 2 rfl)) <| ?_
    clear H13 a13 H169 a169
    exact ⟨by rw [goodT_is (b := true) (by omega) (fun j hj => hok j (by omega)) ((free_okF l).2 (by rw [List.take_of_length_le (by omega)] at hF; exact hF))], HSL11.below⟩
set_option maxHeartbeats 800000 in
theorem rgoodt_zero (A : Option Addr) (c : Nat) (l : List Tv) (w : World) (hv : VolsAt w (.slice A 0 c) (volL l)) :
    Calls Tryd.prog 15 #[.slice A 0 c] w fun e w' => e = .returned (.bool (goodT l)) ∧ Below w.heap.size w w' := by
  have HS := St.nil w noF
  have hln : l.length = 0 := by rw [← len_volL]; exact vols_len hv
  have hok : ∀ j, j < l.length → ∀ x, l[j]? = some x → okT l j x = true := fun j hj => absurd hj (by omega)
  have hF : okF (flatB (l.take 0)) := (cntF_ok []).1 (by decide)
  refine enter_en Tryd.func15 rfl Tryd.ntmps15 (Nat.le_of_ble_eq_true rfl) fun a0 (HA0 : En 71 [(0, .slice A 0 c)] a0) => ?_
  refine sq_ <| rl_ <| wl_ <| p_ HA0 rfl rfl fun a1 H1 => ln_ <| nx <| sq_ <| sq_ <| rl_ <| wl_ <| p_ H1 rfl rfl fun a2 H2 => wl_ <| i_ H2 rfl (v := .int .i64 0) (dd_len rfl (H2.ev 8 rfl) Tryd.underlying22) fun a3 H3 => wl_ <| i_ H3 rfl (dd_cmp rfl (H3.ev 9 rfl) rfl (gt_f (by decide))) fun a4 H4 => ln_ <| nx <| cf_ H4 rfl <| wp_skip <| nx <| sq_ <| rl_ <| wl_ <| n_ H4 rfl (fun _ h => dd_new HS #[.bool false, .bool false, .bool false, .bool false, .bool false, .bool false, .bool false, .bool false, .bool false, .bool false, .bool false, .bool false] rfl (z := .agg #[.bool false, .bool false, .bool false, .bool false, .bool false, .bool false, .bool false, .bool false, .bool false, .bool false, .bool false, .bool false]) (by kernel_rfl) rfl h) fun g3 W5 HS5 a5 H5 => ln_ <| nx <| sq_ <| sq_ <| rl_ <| wl_ <| p_ H5 rfl rfl fun a6 H6 => ln_ <| nx <| wp_block <| wp_unr 1 <| unr_go <| sq_ <| sq_ <| rl_ <| q_ H6 2 rfl fun a7 H7 => wl_ <| i_ H7 rfl (v := .int .i64 0) (dd_len rfl (H7.ev 12 rfl) Tryd.underlying22) fun a8 H8 => ?_
  clear HA0 a0 H1 a1 H2 a2 H3 a3 HS H4 a4 H5 a5 H6 a6
  refine wl_ <| i_ H8 rfl (dd_cmp rfl (H8.ev 11 rfl) (H8.ev 13 rfl) (lt_f (by decide))) fun a9 H9 => ln_ <| nx <| cf_ H9 rfl <| wp_exit <| tx <| tx <| bx <| nx <| sq_ <| rl_ <| wl_ <| p_ H9 rfl rfl fun a10 H10 => ln_ <| nx <| wp_ret <| ret_run H10.env0 (res_t Tryd.results15 (H10.get 2 rfl)) <| ?_
  clear H7 a7 H8 a8 H9 a9
  exact ⟨by rw [goodT_is (b := true) (by omega) (fun j hj => hok j (by omega)) ((free_okF l).2 (by rw [List.take_of_length_le (by omega)] at hF; exact hF))], HS5.below⟩
theorem rgoodt_any (A : Option Addr) (n c : Nat) (l : List Tv) (w : World) (hv : VolsAt w (.slice A n c) (volL l)) (hn : n ≤ 1000000) :
    Calls Tryd.prog 15 #[.slice A n c] w fun e w' => e = .returned (.bool (goodT l)) ∧ Below w.heap.size w w' := by
  by_cases h0 : n = 0
  · subst h0; exact rgoodt_zero A c l w hv
  · obtain ⟨b, o, rfl⟩ := vols_some hv (by omega)
    exact rgoodt_pos b o n c l w hv hn
end Go.Proofs.YtpmedgibnnonkaaDoor

/- The document's tables: Encode. -/
set_option maxRecDepth 4000
namespace Go.Proofs.YtpmedgibnnonkaaDoor
open Go Go.RowKit
theorem own_n2 {cb : Array Value} {c n m : Nat} {L : List Value} (h : OwnC cb c n 1 L) (e : n = m) : OwnC cb c m 1 L := e ▸ h
def blkT (L : List Int) (j : Nat) : List (BitVec 8) := (List.range j).map fun i => byteI (L.getD i 0)
theorem qin (A : List (BitVec 8)) (L : List Int) (j : Nat) : (A ++ blkT L j) ++ [byteI (L.getD j 0)] = A ++ blkT L (j + 1) := by
  unfold blkT; rw [List.range_succ, List.map_append, List.append_assoc]; rfl
theorem qin0 (A : List (BitVec 8)) {L : List Int} {j : Nat} (h : L.length ≤ j) : (A ++ blkT L j) ++ [0#8] = A ++ blkT L (j + 1) := by
  rw [← qin, List.getD_eq_getElem?_getD, List.getElem?_eq_none h]; rfl
theorem qstep {l : List Tv} {k j n : Nat} {p : List (BitVec 8)} {L : List Int} (h : l[k]? = some (p, L)) (hj : j = 4) : ([byteI n] ++ (l.take k).flatMap volE) ++ padN p ++ [byteI L.length] ++ blkT L j = [byteI n] ++ (l.take (k + 1)).flatMap volE := by
  subst hj
  rw [List.take_add_one, h]
  simp [volE, blkT, blk4, List.range, List.range.loop]
theorem qall {l : List Tv} {Q : List (BitVec 8)} (h3 : l.length ≤ 3) (h : Q = [byteI l.length] ++ l.flatMap volE) : encB l = spl (zer 32) 0 Q := by
  have hl : Q.length = 1 + 9 * l.length := by rw [h, List.length_append, len_flatE]; rfl
  have e := spl_zer [] Q (1 + 9 * l.length) (31 - 9 * l.length) 0 hl rfl
  rw [show 1 + 9 * l.length + (31 - 9 * l.length) = 32 by omega, List.nil_append, List.nil_append] at e
  rw [e, h]; rfl
set_option maxHeartbeats 1600000 in
theorem renct_pos (b o n c : Nat) (l : List Tv) (w : World) (hv : VolsAt w (.slice (some ⟨b, o, none⟩) n c) (volL l)) (hn : n ≤ 1000000) (hG : goodT l = true) :
    Calls Tryd.prog 11 #[.slice (some ⟨b, o, none⟩) n c] w fun e w' => e = .returned (.tuple #[.agg (bs (encT l)), .int .i64 (encE l)]) ∧ Below w.heap.size w w' := by
  have HS := St.nil w noF
  have HV : ∀ W, Below w.heap.size w W → VolsAt W (.slice (some ⟨b, o, none⟩) n c) (volL l) := fun W hb => hv.below hb (Nat.le_refl _)
  have hln : l.length = n := by rw [← len_volL]; exact vols_len hv
  have hn3 : l.length ≤ 3 := (goodT_parts hG).1
  refine enter_en Tryd.func11 rfl Tryd.ntmps11 (Nat.le_of_ble_eq_true rfl) fun a0 (HA0 : En 71 [(0, .slice (some ⟨b, o, none⟩) n c)] a0) => ?_
  refine sq_ <| rl_ <| wl_ <| n_ HA0 rfl (fun _ h => dd_new HS (bs (zer 32)) rfl (z := .agg (bs (zer 32))) (by kernel_rfl) rfl h) fun g2 W1 HS1 a1 H1 => wl_ <| p_ H1 rfl rfl fun a2 H2 => ln_ <| nx <| sq_ <| sq_ <| rl_ <| wl_ <| p_ H2 rfl rfl fun a3 H3 => wl_ <| c_ H3 rfl HS1 (v := .bool true) (dc_ Tryd.func15 rfl (args1 (H3.ev 10 rfl)) (rgoodt_any _ _ _ l W1 (hv.below HS1.below (Nat.le_refl _)) hn) (fun _ w9 h9 => ⟨_, h9.1, by rw [hG], h9.2⟩)) fun W4 HS4 a4 H4 => wl_ <| i_ H4 rfl (v := .bool false) (dd_nt rfl (H4.ev 11 rfl) rfl) fun a5 H5 => ln_ <| nx <| cf_ H5 rfl <| wp_skip <| nx <| sq_ <| rl_ <| wl_ <| p_ H5 rfl rfl fun a6 H6 => wl_ <| i_ H6 rfl (v := .int .i64 n) (dd_len rfl (H6.ev 14 rfl) Tryd.underlying22) fun a7 H7 => wl_ <| i_ H7 rfl (v := .int .u8 (bd (byteI n))) (dd_conv (k := .u8) rfl (H7.ev 15 rfl) Tryd.underlying3 (by kernel_rfl) (wrap_u8_bd _)) fun a8 H8 => ?_
  clear HS HA0 a0 H1 a1 H2 a2 H3 a3 HS1 H4 a4 H5 a5 H6 a6
  refine wl_ <| n_ H8 rfl (fun _ h => dd_lits HS4 #[.int .u8 (bd (byteI n))] rfl (ps := [(0, .int .u8 (bd (byteI n)))]) (pr1 (H8.ev 16 rfl) (pr0)) (z := .int .u8 0) (sz := 1) Tryd.underlying49 (by kernel_rfl) rfl rfl (by kernel_rfl) h) fun g17 W9 HS9 a9 H9 => wl_ <| p_ H9 rfl rfl fun a10 H10 => ln_ <| nx <| sq_ <| sq_ <| rl_ <| wl_ <| p_ H10 rfl rfl fun a11 H11 => ln_ <| nx <| wp_block <| ?_
  clear H7 a7 HS4 H8 a8 H9 a9 H10 a10
  refine wp_loopG (ι := Nat) (fun k a9 w9 => ∃ gq : Nat, ∃ cq : Nat, ∃ cbq : Array Value, ∃ Qq : List (BitVec 8), (k ≤ n) ∧ (OwnC cbq cq (1 + 9 * k) 1 (bytesV Qq)) ∧ (Qq.length = 1 + 9 * k) ∧ (Qq = [byteI n] ++ (l.take k).flatMap volE) ∧ En 71 [(5, .int .i64 k), (4, .slice (some ⟨gq, 0, none⟩) (1 + 9 * k) cq), (2, .pointer (some ⟨g2, 0, none⟩)), (0, .slice (some ⟨b, o, none⟩) n c)] a9 ∧ St w noF [⟨g2, 24, bs (zer 32)⟩, ⟨gq, 5, cbq⟩] w9) (fun k => n - k) (0) ⟨g17, 1, #[.int .u8 (bd (byteI n))], ([(byteI n)]), Nat.zero_le _, (⟨Nat.le_refl _, by decide, rfl, rfl, rfl⟩ : OwnC #[.int .u8 (bd (byteI n))] 1 1 1 (bytesV [(byteI n)])), rfl, rfl, H11.sel [0, 2, 4, 5] rfl, ss HS9 [0, 1]⟩ ?_
  clear H11 a11 HS9
  rintro k aL12 wL12 ⟨gq, cq, cbq, Qq, hk, Oq, hq, hQ, HL12, HSL12⟩
  refine sq_ <| sq_ <| rl_ <| q_ HL12 2 rfl fun a13 H13 => wl_ <| i_ H13 rfl (v := .int .i64 n) (dd_len rfl (H13.ev 19 rfl) Tryd.underlying22) fun a14 H14 => ?_
  clear HL12 aL12 H13 a13
  by_cases hc16 : (k : Int) < n
  ·
   refine wl_ <| i_ H14 rfl (dd_cmp rfl (H14.ev 18 rfl) (H14.ev 20 rfl) (lt_t hc16)) fun a17 H17 => ln_ <| nx <| ct_ H17 rfl <| wp_skip <| nx <| sq_ <| wp_block <| sq_ <| rl_ <| q_ H17 2 rfl fun a18 H18 => wl_ <| i_ H18 rfl (xSo 2 (o + k * 2) rfl (H18.ev 24 rfl) (H18.ev 25 rfl)) fun a19 H19 => wl_ <| i_ H19 rfl (xf 0 (o + k * 2) rfl (H19.ev 26 rfl)) fun a20 H20 => ?_
   clear H14 a14 H17 a17 H18 a18 H19 a19
   obtain ⟨p22, L22, B22, m22, c22, hg22, hr22, hm22, hp22⟩ := vols_getC (HV _ (Below.refl _ _)) (k := k) (by omega)
   refine wl_ <| i_ H20 rfl (dd_at rfl (H20.ev 27 rfl) ((hr22 _ HSL12.below).1 0 _ rfl) Tryd.underlying9 rfl) fun a21 H21 => wl_ <| c_ H21 rfl HSL12 (dcs Tryd.func20 rfl (args1 (H21.ev 28 rfl)) (refpad_any p22 wL12 (Nat.le_trans hp22 (Nat.le_refl _))) (.agg (bs (padN p22)))) fun W23 HS23 a23 H23 => wl_ <| n_ H23 rfl (fun _ h => dd_new HS23 (bs (zer 4)) rfl (z := .agg (bs (zer 4))) (by kernel_rfl) rfl h) fun g6 W24 HS24 a24 H24 => wl_ <| t_ rfl (fun _ h => dd_setrow HS24 2 rfl rfl (H24.ev 6 rfl) (H24.ev 29 rfl) (by kernel_rfl) (((size_bs _).trans (length_padN _)) : (bs (padN p22)).size = 4) (((size_bs _).trans (length_zer 4)) : (bs (zer 4)).size = 4) (one_bs _) h) fun W25 HS25 => ln_ <| nx <| sq_ <| ?_
   clear H20 a20 H21 a21 HSL12 HS23 H23 a23 HS24
   refine wp_cut (fun a9 w9 => ∃ g41_42 : Nat, ∃ c41_42 : Nat, ∃ g40 : Nat, ∃ cb41_42 : Array Value, OwnC cb41_42 c41_42 (1 + 9 * k + 4 + 1) 1 (bytesV ((Qq ++ (padN p22)) ++ ([(byteI m22)]))) ∧ En 71 [(4, .slice (some ⟨g41_42, 0, none⟩) (1 + 9 * k + 4 + 1) c41_42), (5, .int .i64 k), (2, .pointer (some ⟨g2, 0, none⟩)), (0, .slice (some ⟨b, o, none⟩) n c)] a9 ∧ St w noF [⟨g2, 24, bs (zer 32)⟩, ⟨g6, 50, bs (padN p22)⟩, ⟨g40, 5, #[.int .u8 (bd (byteI m22))]⟩, ⟨g41_42, 5, cb41_42⟩] w9) ?_ ?_
   ·
    refine wi_ HS25 [0, 2] rfl [0, 2, 1] rfl fun HSh26 hx26 => hp_ H24 0 hx26 rfl rfl rfl fun a27 H27 => ht_ H27 1 hx26 rfl rfl (v := .slice (some ⟨g6, 0, none⟩) 4 4) (fun _ _ _ => dd_slA (n := 4) (sz := 1) rfl (H27.ev 6 rfl) (by kernel_rfl)) fun a28 H28 => hp_ H28 3 hx26 rfl rfl rfl fun a29 H29 => hp_ H29 4 hx26 rfl rfl rfl fun a30 H30 => ht_ H30 5 hx26 rfl rfl (fun _ _ _ => xSo 2 (o + k * 2) rfl (H30.ev 33 rfl) (H30.ev 34 rfl)) fun a31 H31 => ht_ H31 6 hx26 rfl rfl (fun _ _ _ => xf 1 (o + k * 2 + 1) rfl (H31.ev 35 rfl)) fun a32 H32 => ht_ H32 7 hx26 rfl rfl (fun _ _ HS9 => dd_at rfl (H32.ev 36 rfl) ((hr22 _ HS9.below).1 1 _ rfl) Tryd.underlying43 rfl) fun a33 H33 => ?_
    clear HS25 H24 a24 H27 a27 H28 a28 H29 a29 H30 a30 H31 a31
    refine ht_ H33 8 hx26 rfl rfl (v := .int .i64 m22) (fun _ _ _ => dd_len rfl (H33.ev 37 rfl) Tryd.underlying43) fun a34 H34 => ht_ H34 9 hx26 rfl rfl (v := .int .u8 (bd (byteI m22))) (fun _ _ _ => dd_conv (k := .u8) rfl (H34.ev 38 rfl) Tryd.underlying3 (by kernel_rfl) (wrap_u8_bd _)) fun a35 H35 => ?_
    clear H32 a32 H33 a33 H34 a34
    refine wpAnyH_all (rs := [2, 10]) (by kernel_rfl) (by decide) (hm_cons ?_ (hm_cons ?_ hm_nil))
    ·
     refine ho_ rfl <| a_ H35 rfl (fun g32_37 c32_37 => .slice (some ⟨g32_37, 0, none⟩) (1 + 9 * k + 4) c32_37) (T := fun _ c32_37 cb32_37 => OwnC cb32_37 c32_37 (1 + 9 * k + 4) 1 (bytesV (Qq ++ (padN p22)))) (fun _ h => dd_appB HSh26 1 rfl Oq rfl (H35.ev 30 rfl) (H35.ev 31 rfl) (slice_part (HSh26.row 2 rfl) 0 (bytes_slab (slab_whole _)) (length_padN _) (by decide)) (fun h9 => by cases h9) rfl rfl (by unfold maxLen; omega) (by omega) h) fun g32_37 c32_37 cb32_37 W36 O32_37 HS36 a36 H36 => sx_ (sxi HS36 [0, 1, 2] rfl) fun hx38 => h1_ 10 rfl <| n_ H36 rfl (fun _ h => dd_lits HS36 #[.int .u8 (bd (byteI m22))] rfl (ps := [(0, .int .u8 (bd (byteI m22)))]) (pr1 (H36.ev 39 rfl) (pr0)) (z := .int .u8 0) (sz := 1) Tryd.underlying49 (by kernel_rfl) rfl rfl (by kernel_rfl) h) fun g40 W39 HS39 a39 H39 => sx_ (sxi HS39 [0, 1, 2, 3] rfl) fun hx40 => h1_ 11 rfl <| a_ H39 rfl (fun g41_42 c41_42 => .slice (some ⟨g41_42, 0, none⟩) (1 + 9 * k + 4 + 1) c41_42) (T := fun _ c41_42 cb41_42 => OwnC cb41_42 c41_42 (1 + 9 * k + 4 + 1) 1 (bytesV ((Qq ++ (padN p22)) ++ ([(byteI m22)])))) (fun _ h => dd_appB HS39 2 rfl O32_37 rfl (H39.ev 32 rfl) (H39.ev 40 rfl) (slice_own (HS39.row 3 rfl) (⟨Nat.le_refl _, by decide, rfl, rfl, rfl⟩ : OwnC #[.int .u8 (bd (byteI m22))] 1 1 1 (bytesV [(byteI m22)])) (show ([(byteI m22)] : List (BitVec 8)).length = 1 from rfl)) (fun h9 => by cases h9) rfl rfl (by unfold maxLen; omega) (by omega) h) fun g41_42 c41_42 cb41_42 W41 O41_42 HS41 a41 H41 => sx_ (sxi HS41 [0, 1, 2, 3] rfl) fun hx43 => hp_ H41 12 hx43 rfl rfl rfl fun a44 H44 => ?_
     clear HSh26 H35 a35 HS36 H36 a36 hx38 HS39 H39 a39 hx40 H41 a41
     refine wpAnyH_done (by kernel_rfl) ?_ _
     clear hx43
     exact nx ⟨g41_42, c41_42, _, cb41_42, O41_42, H44.sel [0, 2, 5, 4] rfl, ss HS41 [0, 1, 2, 3]⟩
    ·
     refine ho_ rfl <| n_ H35 rfl (fun _ h => dd_lits HSh26 #[.int .u8 (bd (byteI m22))] rfl (ps := [(0, .int .u8 (bd (byteI m22)))]) (pr1 (H35.ev 39 rfl) (pr0)) (z := .int .u8 0) (sz := 1) Tryd.underlying49 (by kernel_rfl) rfl rfl (by kernel_rfl) h) fun g40 W45 HS45 a45 H45 => sx_ (sxi HS45 [0, 2, 1, 3] rfl) fun hx46 => h1_ 2 rfl <| a_ H45 rfl (fun g32_48 c32_48 => .slice (some ⟨g32_48, 0, none⟩) (1 + 9 * k + 4) c32_48) (T := fun _ c32_48 cb32_48 => OwnC cb32_48 c32_48 (1 + 9 * k + 4) 1 (bytesV (Qq ++ (padN p22)))) (fun _ h => dd_appB HS45 1 rfl Oq rfl (H45.ev 30 rfl) (H45.ev 31 rfl) (slice_part (HS45.row 2 rfl) 0 (bytes_slab (slab_whole _)) (length_padN _) (by decide)) (fun h9 => by cases h9) rfl rfl (by unfold maxLen; omega) (by omega) h) fun g32_48 c32_48 cb32_48 W47 O32_48 HS47 a47 H47 => sx_ (sxi HS47 [0, 1, 2, 3] rfl) fun hx49 => h1_ 11 rfl <| a_ H47 rfl (fun g41_51 c41_51 => .slice (some ⟨g41_51, 0, none⟩) (1 + 9 * k + 4 + 1) c41_51) (T := fun _ c41_51 cb41_51 => OwnC cb41_51 c41_51 (1 + 9 * k + 4 + 1) 1 (bytesV ((Qq ++ (padN p22)) ++ ([(byteI m22)])))) (fun _ h => dd_appB HS47 3 rfl O32_48 rfl (H47.ev 32 rfl) (H47.ev 40 rfl) (slice_own (HS47.row 2 rfl) (⟨Nat.le_refl _, by decide, rfl, rfl, rfl⟩ : OwnC #[.int .u8 (bd (byteI m22))] 1 1 1 (bytesV [(byteI m22)])) (show ([(byteI m22)] : List (BitVec 8)).length = 1 from rfl)) (fun h9 => by cases h9) rfl rfl (by unfold maxLen; omega) (by omega) h) fun g41_51 c41_51 cb41_51 W50 O41_51 HS50 a50 H50 => sx_ (sxi HS50 [0, 1, 2, 3] rfl) fun hx52 => hp_ H50 12 hx52 rfl rfl rfl fun a53 H53 => ?_
     clear HSh26 H35 a35 HS45 H45 a45 hx46 HS47 H47 a47 hx49 H50 a50
     refine wpAnyH_done (by kernel_rfl) ?_ _
     clear hx52
     exact nx ⟨g41_51, c41_51, _, cb41_51, O41_51, H53.sel [0, 2, 5, 4] rfl, ss HS50 [0, 1, 2, 3]⟩
   ·
    rintro aj26 wj26 ⟨g41_42, c41_42, g40, cb41_42, O41_42, Hj26, HSj26⟩
    refine nx <| sq_ <| rl_ <| wl_ <| p_ Hj26 rfl rfl fun a55 H55 => ln_ <| nx <| wp_block <| ?_
    clear Hj26 aj26
    refine wp_loopG (ι := Nat) (fun j a9 w9 => ∃ gj : Nat, ∃ cj : Nat, ∃ cbj : Array Value, ∃ Qj : List (BitVec 8), (j ≤ 4) ∧ (OwnC cbj cj (1 + 9 * k + 4 + 1 + j) 1 (bytesV Qj)) ∧ (Qj.length = 1 + 9 * k + 4 + 1 + j) ∧ (Qj = Qq ++ padN p22 ++ [byteI m22] ++ blkT L22 j) ∧ En 71 [(7, .int .i64 j), (4, .slice (some ⟨gj, 0, none⟩) (1 + 9 * k + 4 + 1 + j) cj), (5, .int .i64 k), (2, .pointer (some ⟨g2, 0, none⟩)), (0, .slice (some ⟨b, o, none⟩) n c)] a9 ∧ St w noF [⟨g2, 24, bs (zer 32)⟩, ⟨g6, 50, bs (padN p22)⟩, ⟨g40, 5, #[.int .u8 (bd (byteI m22))]⟩, ⟨gj, 5, cbj⟩] w9) (fun j => 4 - j) (0) ⟨g41_42, c41_42, cb41_42, ((Qq ++ (padN p22)) ++ ([(byteI m22)])), Nat.zero_le _, O41_42, ((len_app (len_app hq (length_padN _)) (show ([(byteI m22)] : List (BitVec 8)).length = 1 from rfl)).trans (by omega)), (by simp [blkT]), H55.sel [0, 2, 5, 4, 7] rfl, ss HSj26 [0, 1, 2, 3]⟩ ?_
    clear H55 a55 HSj26
    rintro j aL56 wL56 ⟨gj, cj, cbj, Qj, hj, Oj, hqj, hQj, HL56, HSL56⟩
    refine sq_ <| sq_ <| rl_ <| wl_ <| p_ HL56 rfl rfl fun a57 H57 => ?_
    clear HL56 aL56
    by_cases hc59 : (j : Int) < 4
    ·
     refine wl_ <| i_ H57 rfl (dd_cmp rfl (H57.ev 42 rfl) rfl (lt_t hc59)) fun a60 H60 => ln_ <| nx <| ct_ H60 rfl <| wp_skip <| nx <| sq_ <| wp_block <| sq_ <| rl_ <| wl_ <| p_ H60 rfl rfl fun a61 H61 => ln_ <| nx <| sq_ <| sq_ <| rl_ <| q_ H61 3 rfl fun a62 H62 => wl_ <| i_ H62 rfl (xSo 2 (o + k * 2) rfl (H62.ev 47 rfl) (H62.ev 48 rfl)) fun a63 H63 => wl_ <| i_ H63 rfl (xf 1 (o + k * 2 + 1) rfl (H63.ev 49 rfl)) fun a64 H64 => wl_ <| i_ H64 rfl (dd_at rfl (H64.ev 50 rfl) ((hr22 _ HSL56.below).1 1 _ rfl) Tryd.underlying43 rfl) fun a65 H65 => wl_ <| i_ H65 rfl (v := .int .i64 m22) (dd_len rfl (H65.ev 51 rfl) Tryd.underlying43) fun a66 H66 => ?_
     clear H57 a57 H60 a60 H61 a61 H62 a62 H63 a63 H64 a64 H65 a65
     by_cases hc68 : (j : Int) < m22
     ·
      refine wl_ <| i_ H66 rfl (dd_cmp rfl (H66.ev 46 rfl) (H66.ev 52 rfl) (lt_t hc68)) fun a69 H69 => ln_ <| nx <| ct_ H69 rfl <| rl_ <| q_ H69 2 rfl fun a70 H70 => wl_ <| i_ H70 rfl (xSo 2 (o + k * 2) rfl (H70.ev 54 rfl) (H70.ev 55 rfl)) fun a71 H71 => wl_ <| i_ H71 rfl (xf 1 (o + k * 2 + 1) rfl (H71.ev 56 rfl)) fun a72 H72 => wl_ <| i_ H72 rfl (dd_at rfl (H72.ev 57 rfl) ((hr22 _ HSL56.below).1 1 _ rfl) Tryd.underlying43 rfl) fun a73 H73 => wl_ <| p_ H73 rfl rfl fun a74 H74 => ?_
      clear H66 a66 H69 a69 H70 a70 H71 a71 H72 a72 H73 a73
      obtain ⟨bi22, oi22, hB22⟩ := ints_addr (hr22 _ (Below.refl _ _)).2 (by omega)
      refine wl_ <| i_ H74 rfl (dd_idxS (sz := 1) (j := oi22 + j) rfl (sl_at (H74.ev 58 rfl) hB22) (H74.ev 59 rfl) (by kernel_rfl) (by omega) (by omega) (by omega)) fun a75 H75 => wl_ <| i_ H75 rfl (dd_at rfl (H75.ev 60 rfl) (ints_atB (hr22 _ HSL56.below).2 hB22 j (by omega)) Tryd.underlying3 rfl) fun a76 H76 => wl_ <| p_ H76 rfl rfl fun a77 H77 => ln_ <| ?_
      clear H74 a74 H75 a75 H76 a76
      have H78 := H77.sel [0, 2, 5, 4, 7, 8] rfl
      refine nx <| rl_ <| q_ H78 2 rfl fun a79 H79 => wl_ <| i_ H79 rfl (v := .int .u8 (bd (byteI (L22.getD j 0)))) (dd_conv (k := .u8) rfl (H79.ev 63 rfl) Tryd.underlying3 (by kernel_rfl) (wrap_u8_bd _)) fun a80 H80 => wl_ <| n_ H80 rfl (fun _ h => dd_lits HSL56 #[.int .u8 (bd (byteI (L22.getD j 0)))] rfl (ps := [(0, .int .u8 (bd (byteI (L22.getD j 0))))]) (pr1 (H80.ev 64 rfl) (pr0)) (z := .int .u8 0) (sz := 1) Tryd.underlying49 (by kernel_rfl) rfl rfl (by kernel_rfl) h) fun g65 W81 HS81 a81 H81 => wl_ <| a_ H81 rfl (fun g66_83 c66_83 => .slice (some ⟨g66_83, 0, none⟩) (1 + 9 * k + 4 + 1 + j + 1) c66_83) (T := fun _ c66_83 cb66_83 => OwnC cb66_83 c66_83 (1 + 9 * k + 4 + 1 + j + 1) 1 (bytesV (Qj ++ ([(byteI (L22.getD j 0))])))) (fun _ h => dd_appB HS81 3 rfl Oj rfl (H81.ev 62 rfl) (H81.ev 65 rfl) (slice_own (HS81.row 4 rfl) (⟨Nat.le_refl _, by decide, rfl, rfl, rfl⟩ : OwnC #[.int .u8 (bd (byteI (L22.getD j 0)))] 1 1 1 (bytesV [(byteI (L22.getD j 0))])) (show ([(byteI (L22.getD j 0))] : List (BitVec 8)).length = 1 from rfl)) (fun h9 => by cases h9) rfl rfl (by unfold maxLen; omega) (by omega) h) fun g66_83 c66_83 cb66_83 W82 O66_83 HS82 a82 H82 => wl_ <| p_ H82 rfl rfl fun a84 H84 => ln_ <| bn <| nx <| rl_ <| wl_ <| p_ H84 rfl rfl fun a85 H85 => wl_ <| i_ H85 rfl (v := .int .i64 (j + 1)) (dd_ari rfl (H85.ev 44 rfl) rfl rfl (i64_of (by first | omega | (have := bd_lo; omega)) (by omega))) fun a86 H86 => wl_ <| p_ H86 rfl rfl fun a87 H87 => ?_
      clear H77 H78 a77 H79 a79 HSL56 H80 a80 HS81 H81 a81 H82 a82 H84 a84 H85 a85
      refine ln_ <| ?_
      clear H86 a86
      refine nx ⟨j + 1, ⟨g66_83, c66_83, cb66_83, (Qj ++ ([(byteI (L22.getD j 0))])), (by omega), (own_n2 O66_83 (by omega)), ((len_app hqj (show ([(byteI (L22.getD j 0))] : List (BitVec 8)).length = 1 from rfl)).trans (by omega)), (by rw [hQj]; exact qin _ _ _), H87.sel [0, 2, 5, 4, 7] rfl, ss HS82 [0, 1, 2, 4]⟩, (by omega)⟩
     ·
      refine wl_ <| i_ H66 rfl (dd_cmp rfl (H66.ev 46 rfl) (H66.ev 52 rfl) (lt_f hc68)) fun a88 H88 => ln_ <| nx <| cf_ H88 rfl <| wp_skip <| nx <| rl_ <| q_ H88 2 rfl fun a89 H89 => wl_ <| i_ H89 rfl (v := .int .u8 0) (dd_conv (k := .u8) rfl (H89.ev 63 rfl) Tryd.underlying3 (by kernel_rfl) (by decide)) fun a90 H90 => wl_ <| n_ H90 rfl (fun _ h => dd_lits HSL56 #[.int .u8 0] rfl (ps := [(0, .int .u8 0)]) (pr1 (H90.ev 64 rfl) (pr0)) (z := .int .u8 0) (sz := 1) Tryd.underlying49 (by kernel_rfl) rfl rfl (by kernel_rfl) h) fun g65 W91 HS91 a91 H91 => wl_ <| a_ H91 rfl (fun g66_93 c66_93 => .slice (some ⟨g66_93, 0, none⟩) (1 + 9 * k + 4 + 1 + j + 1) c66_93) (T := fun _ c66_93 cb66_93 => OwnC cb66_93 c66_93 (1 + 9 * k + 4 + 1 + j + 1) 1 (bytesV (Qj ++ ([0#8])))) (fun _ h => dd_appB HS91 3 rfl Oj rfl (H91.ev 62 rfl) (H91.ev 65 rfl) (slice_own (HS91.row 4 rfl) (⟨Nat.le_refl _, by decide, rfl, rfl, rfl⟩ : OwnC #[.int .u8 0] 1 1 1 (bytesV [0#8])) (show ([0#8] : List (BitVec 8)).length = 1 from rfl)) (fun h9 => by cases h9) rfl rfl (by unfold maxLen; omega) (by omega) h) fun g66_93 c66_93 cb66_93 W92 O66_93 HS92 a92 H92 => wl_ <| p_ H92 rfl rfl fun a94 H94 => ln_ <| ?_
      clear H66 a66 H88 a88 H89 a89 HSL56 H90 a90 HS91 H91 a91 H92 a92
      have H95 := H94.sel [0, 2, 5, 7, 4] rfl
      refine bn <| nx <| rl_ <| wl_ <| p_ H95 rfl rfl fun a96 H96 => wl_ <| i_ H96 rfl (v := .int .i64 (j + 1)) (dd_ari rfl (H96.ev 44 rfl) rfl rfl (i64_of (by first | omega | (have := bd_lo; omega)) (by omega))) fun a97 H97 => wl_ <| p_ H97 rfl rfl fun a98 H98 => ln_ <| ?_
      clear H94 H95 a94 H96 a96 H97 a97
      refine nx ⟨j + 1, ⟨g66_93, c66_93, cb66_93, (Qj ++ ([0#8])), (by omega), (own_n2 O66_93 (by omega)), ((len_app hqj (show ([0#8] : List (BitVec 8)).length = 1 from rfl)).trans (by omega)), (by rw [hQj]; exact qin0 _ (show L22.length ≤ j by omega)), H98.sel [0, 2, 5, 4, 7] rfl, ss HS92 [0, 1, 2, 4]⟩, (by omega)⟩
    ·
     refine wl_ <| i_ H57 rfl (dd_cmp rfl (H57.ev 42 rfl) rfl (lt_f hc59)) fun a99 H99 => ln_ <| nx <| cf_ H99 rfl <| wp_exit <| tx <| tx <| bx <| bn <| nx <| rl_ <| wl_ <| p_ H99 rfl rfl fun a100 H100 => wl_ <| i_ H100 rfl (v := .int .i64 (k + 1)) (dd_ari rfl (H100.ev 22 rfl) rfl rfl (i64_of (by first | omega | (have := bd_lo; omega)) (by omega))) fun a101 H101 => wl_ <| p_ H101 rfl rfl fun a102 H102 => ln_ <| ?_
     clear H57 a57 H99 a99 H100 a100 H101 a101
     have H103 : En 71 [(5, .int .i64 (k + 1)), (23, .int .i64 (k + 1)), (22, .int .i64 k), (43, .bool false), (42, .int .i64 j), (7, .int .i64 j), (4, .slice (some ⟨gj, 0, none⟩) (1 + 9 * k + 4 + 1 + j) cj), (2, .pointer (some ⟨g2, 0, none⟩)), (0, .slice (some ⟨b, o, none⟩) n c)] a102 := H102.sel [0, 2, 4, 7, 42, 43, 22, 23, 5] rfl
     clear H102
     have e9 : 1 + 9 * k + 4 + 1 + j = 1 + 9 * (k + 1) := by omega
     rw [e9] at H103
     refine nx ⟨k + 1, ⟨gj, cj, cbj, Qj, (by omega), (own_n2 Oj (by omega)), (hqj.trans (by omega)), (by rw [hQj, hQ, ← hm22, qstep hg22 (show j = 4 by omega)]), H103.sel [0, 2, 4, 5] rfl, ss HSL56 [0, 3]⟩, (by omega)⟩
  ·
   refine wl_ <| i_ H14 rfl (dd_cmp rfl (H14.ev 18 rfl) (H14.ev 20 rfl) (lt_f hc16)) fun a104 H104 => ln_ <| nx <| cf_ H104 rfl <| wp_exit <| tx <| tx <| bx <| nx <| sq_ <| rl_ <| wl_ <| n_ H104 rfl (fun _ h => dd_new HSL12 (bs (zer 32)) rfl (z := .agg (bs (zer 32))) (by kernel_rfl) rfl h) fun g9 W105 HS105 a105 H105 => ln_ <| nx <| sq_ <| rl_ <| wl_ <| i_ H105 rfl (v := .slice (some ⟨g9, 0, none⟩) 32 32) (dd_slA (n := 32) (sz := 1) rfl (H105.ev 9 rfl) (by kernel_rfl)) fun a106 H106 => wl_ <| p_ H106 rfl rfl fun a107 H107 => wl_ <| tv H107 rfl (S := [⟨g2, 24, bs (zer 32)⟩, ⟨gq, 5, cbq⟩, ⟨g9, 24, bs (spl (zer 32) 0 Qq)⟩]) (v := .int .i64 (1 + 9 * k)) (fun _ h => dd_copyR HS105 2 rfl (length_zer 32) rfl (H107.ev 67 rfl) (H107.ev 68 rfl) (slice_own (HS105.row 1 rfl) Oq hq) hq (by omega) (by omega) h) fun W108 HS108 a108 H108 => ln_ <| nx <| sq_ <| rl_ <| wl_ <| i_ H108 rfl (v := .agg (bs (spl (zer 32) 0 Qq))) (dd_load HS108 2 0 rfl rfl (H108.ev 9 rfl) (slab_whole _) Tryd.underlying24 rfl (by rw [show (bs (spl (zer 32) 0 Qq)).size = 32 from ((size_bs _).trans (len_spl (length_zer 32) hq (by omega)))]; kernel_rfl)) fun a109 H109 => wl_ <| t_ rfl (fun _ h => dd_setrow HS108 0 rfl rfl (H109.ev 2 rfl) (H109.ev 70 rfl) (by kernel_rfl) (((size_bs _).trans (len_spl (length_zer 32) hq (by omega))) : (bs (spl (zer 32) 0 Qq)).size = 32) (((size_bs _).trans (length_zer 32)) : (bs (zer 32)).size = 32) (one_bs _) h) fun W110 HS110 => wl_ <| p_ H109 rfl rfl fun a111 H111 => ?_
   clear H14 a14 HSL12 H104 a104 H105 a105 H106 a106 HS105 H107 a107 H108 a108 HS108
   refine ln_ <| nx <| wp_ret <| ret_run H111.env0 (res_ct Tryd.results11 (H111.get 2 rfl) (HS110.row 0 rfl) Tryd.underlying24 rfl (by rw [show (bs (spl (zer 32) 0 Qq)).size = 32 from ((size_bs _).trans (len_spl (length_zer 32) hq (by omega)))]; kernel_rfl) (H111.get 3 rfl)) <| ?_
   clear H109 a109
   exact ⟨by unfold encT encE; rw [hG, if_pos rfl, if_pos rfl, qall (Q := Qq) (by omega) (by rw [List.take_of_length_le (show l.length ≤ k by omega)] at hQ; rw [hln]; exact hQ)], HS110.below⟩
set_option maxHeartbeats 800000 in
theorem renct_zero (A : Option Addr) (c : Nat) (l : List Tv) (w : World) (hv : VolsAt w (.slice A 0 c) (volL l)) (hn : 0 ≤ 1000000) (hG : goodT l = true) :
    Calls Tryd.prog 11 #[.slice A 0 c] w fun e w' => e = .returned (.tuple #[.agg (bs (encT l)), .int .i64 (encE l)]) ∧ Below w.heap.size w w' := by
  have HS := St.nil w noF
  have hln : l.length = 0 := by rw [← len_volL]; exact vols_len hv
  refine enter_en Tryd.func11 rfl Tryd.ntmps11 (Nat.le_of_ble_eq_true rfl) fun a0 (HA0 : En 71 [(0, .slice A 0 c)] a0) => ?_
  refine sq_ <| rl_ <| wl_ <| n_ HA0 rfl (fun _ h => dd_new HS (bs (zer 32)) rfl (z := .agg (bs (zer 32))) (by kernel_rfl) rfl h) fun g2 W1 HS1 a1 H1 => wl_ <| p_ H1 rfl rfl fun a2 H2 => ln_ <| nx <| sq_ <| sq_ <| rl_ <| wl_ <| p_ H2 rfl rfl fun a3 H3 => wl_ <| c_ H3 rfl HS1 (v := .bool true) (dc_ Tryd.func15 rfl (args1 (H3.ev 10 rfl)) (rgoodt_any _ _ _ l W1 (hv.below HS1.below (Nat.le_refl _)) hn) (fun _ w9 h9 => ⟨_, h9.1, by rw [hG], h9.2⟩)) fun W4 HS4 a4 H4 => wl_ <| i_ H4 rfl (v := .bool false) (dd_nt rfl (H4.ev 11 rfl) rfl) fun a5 H5 => ln_ <| nx <| cf_ H5 rfl <| wp_skip <| nx <| sq_ <| rl_ <| wl_ <| p_ H5 rfl rfl fun a6 H6 => wl_ <| i_ H6 rfl (v := .int .i64 0) (dd_len rfl (H6.ev 14 rfl) Tryd.underlying22) fun a7 H7 => wl_ <| i_ H7 rfl (v := .int .u8 0) (dd_conv (k := .u8) rfl (H7.ev 15 rfl) Tryd.underlying3 (by kernel_rfl) (by decide)) fun a8 H8 => ?_
  clear HS HA0 a0 H1 a1 H2 a2 H3 a3 HS1 H4 a4 H5 a5 H6 a6
  refine wl_ <| n_ H8 rfl (fun _ h => dd_lits HS4 #[.int .u8 0] rfl (ps := [(0, .int .u8 0)]) (pr1 (H8.ev 16 rfl) (pr0)) (z := .int .u8 0) (sz := 1) Tryd.underlying49 (by kernel_rfl) rfl rfl (by kernel_rfl) h) fun g17 W9 HS9 a9 H9 => wl_ <| p_ H9 rfl rfl fun a10 H10 => ln_ <| nx <| sq_ <| sq_ <| rl_ <| wl_ <| p_ H10 rfl rfl fun a11 H11 => ln_ <| nx <| wp_block <| wp_unr 1 <| unr_go <| sq_ <| sq_ <| rl_ <| q_ H11 2 rfl fun a12 H12 => wl_ <| i_ H12 rfl (v := .int .i64 0) (dd_len rfl (H12.ev 19 rfl) Tryd.underlying22) fun a13 H13 => wl_ <| i_ H13 rfl (dd_cmp rfl (H13.ev 18 rfl) (H13.ev 20 rfl) (lt_f (by decide))) fun a14 H14 => ln_ <| nx <| cf_ H14 rfl <| wp_exit <| tx <| tx <| bx <| nx <| sq_ <| rl_ <| wl_ <| n_ H14 rfl (fun _ h => dd_new HS9 (bs (zer 32)) rfl (z := .agg (bs (zer 32))) (by kernel_rfl) rfl h) fun g9 W15 HS15 a15 H15 => ln_ <| nx <| sq_ <| rl_ <| wl_ <| i_ H15 rfl (v := .slice (some ⟨g9, 0, none⟩) 32 32) (dd_slA (n := 32) (sz := 1) rfl (H15.ev 9 rfl) (by kernel_rfl)) fun a16 H16 => ?_
  clear H7 a7 HS4 H8 a8 H9 a9 H10 a10 H11 a11 H12 a12 H13 a13 HS9 H14 a14
  refine wl_ <| p_ H16 rfl rfl fun a17 H17 => wl_ <| tv H17 rfl (S := [⟨g2, 24, bs (zer 32)⟩, ⟨g17, 5, #[.int .u8 0]⟩, ⟨g9, 24, bs (spl (zer 32) 0 ([0#8]))⟩]) (v := .int .i64 1) (fun _ h => dd_copyR HS15 2 rfl (length_zer 32) rfl (H17.ev 67 rfl) (H17.ev 68 rfl) (slice_own (HS15.row 1 rfl) (⟨Nat.le_refl _, by decide, rfl, rfl, rfl⟩ : OwnC #[.int .u8 0] 1 1 1 (bytesV [0#8])) (show ([0#8] : List (BitVec 8)).length = 1 from rfl)) (show ([0#8] : List (BitVec 8)).length = 1 from rfl) (by decide) (by decide) h) fun W18 HS18 a18 H18 => ln_ <| ?_
  clear H15 a15 H16 a16 HS15 H17 a17
  have H19 := H18.sel [2, 9] rfl
  refine nx <| sq_ <| rl_ <| wl_ <| i_ H19 rfl (v := .agg (bs (spl (zer 32) 0 ([0#8])))) (dd_load HS18 2 0 rfl rfl (H19.ev 9 rfl) (slab_whole _) Tryd.underlying24 rfl (by rw [show (bs (spl (zer 32) 0 ([0#8]))).size = 32 from ((size_bs _).trans (len_spl (length_zer 32) (show ([0#8] : List (BitVec 8)).length = 1 from rfl) (by decide)))]; kernel_rfl)) fun a20 H20 => wl_ <| t_ rfl (fun _ h => dd_setrow HS18 0 rfl rfl (H20.ev 2 rfl) (H20.ev 70 rfl) (by kernel_rfl) (((size_bs _).trans (len_spl (length_zer 32) (show ([0#8] : List (BitVec 8)).length = 1 from rfl) (by decide))) : (bs (spl (zer 32) 0 ([0#8]))).size = 32) (((size_bs _).trans (length_zer 32)) : (bs (zer 32)).size = 32) (one_bs _) h) fun W21 HS21 => wl_ <| p_ H20 rfl rfl fun a22 H22 => ln_ <| nx <| wp_ret <| ret_run H22.env0 (res_ct Tryd.results11 (H22.get 2 rfl) (HS21.row 0 rfl) Tryd.underlying24 rfl (by rw [show (bs (spl (zer 32) 0 ([0#8]))).size = 32 from ((size_bs _).trans (len_spl (length_zer 32) (show ([0#8] : List (BitVec 8)).length = 1 from rfl) (by decide)))]; kernel_rfl) (H22.get 3 rfl)) <| ?_
  clear H18 H19 a18 HS18 H20 a20
  exact ⟨by unfold encT encE; rw [hG, if_pos rfl, if_pos rfl, qall (Q := ([0#8])) (by omega) (by rw [List.length_eq_zero_iff.1 hln]; rfl)], HS21.below⟩
set_option maxHeartbeats 800000 in
theorem renct_bad (A : Option Addr) (n c : Nat) (l : List Tv) (w : World) (hv : VolsAt w (.slice A n c) (volL l)) (hn : n ≤ 1000000) (hG : goodT l = false) :
    Calls Tryd.prog 11 #[.slice A n c] w fun e w' => e = .returned (.tuple #[.agg (bs (encT l)), .int .i64 (encE l)]) ∧ Below w.heap.size w w' := by
  have HS := St.nil w noF
  refine enter_en Tryd.func11 rfl Tryd.ntmps11 (Nat.le_of_ble_eq_true rfl) fun a0 (HA0 : En 71 [(0, .slice A n c)] a0) => ?_
  refine sq_ <| rl_ <| wl_ <| n_ HA0 rfl (fun _ h => dd_new HS (bs (zer 32)) rfl (z := .agg (bs (zer 32))) (by kernel_rfl) rfl h) fun g2 W1 HS1 a1 H1 => wl_ <| p_ H1 rfl rfl fun a2 H2 => ln_ <| nx <| sq_ <| sq_ <| rl_ <| wl_ <| p_ H2 rfl rfl fun a3 H3 => wl_ <| c_ H3 rfl HS1 (v := .bool false) (dc_ Tryd.func15 rfl (args1 (H3.ev 10 rfl)) (rgoodt_any _ _ _ l W1 (hv.below HS1.below (Nat.le_refl _)) hn) (fun _ w9 h9 => ⟨_, h9.1, by rw [hG], h9.2⟩)) fun W4 HS4 a4 H4 => wl_ <| i_ H4 rfl (v := .bool true) (dd_nt rfl (H4.ev 11 rfl) rfl) fun a5 H5 => ln_ <| nx <| ct_ H5 rfl <| sq_ <| rl_ <| wl_ <| i_ H5 rfl (v := .agg (bs (zer 32))) (dd_bldk rfl (ps := []) (pr0) (cs := bs (zer 32)) (by kernel_rfl)) fun a6 H6 => wl_ <| t_ rfl (fun _ h => dd_setrow HS4 0 rfl rfl (H6.ev 2 rfl) (H6.ev 13 rfl) (by kernel_rfl) (((size_bs _).trans (length_zer 32)) : (bs (zer 32)).size = 32) (((size_bs _).trans (length_zer 32)) : (bs (zer 32)).size = 32) (one_bs _) h) fun W7 HS7 => wl_ <| p_ H6 rfl rfl fun a8 H8 => ?_
  clear HS HA0 a0 H1 a1 H2 a2 H3 a3 HS1 H4 a4 H5 a5 HS4
  refine ln_ <| nx <| wp_ret <| tr <| ret_run H8.env0 (res_ct Tryd.results11 (H8.get 2 rfl) (HS7.row 0 rfl) Tryd.underlying24 rfl (by rw [show (bs (zer 32)).size = 32 from ((size_bs _).trans (length_zer 32))]; kernel_rfl) (H8.get 3 rfl)) <| ?_
  clear H6 a6
  exact ⟨by unfold encT encE; rw [hG]; rfl, HS7.below⟩
theorem renct_any (A : Option Addr) (n c : Nat) (l : List Tv) (w : World) (hv : VolsAt w (.slice A n c) (volL l)) (hn : n ≤ 1000000) :
    Calls Tryd.prog 11 #[.slice A n c] w fun e w' => e = .returned (.tuple #[.agg (bs (encT l)), .int .i64 (encE l)]) ∧ Below w.heap.size w w' := by
  cases hG : goodT l with
  | false => exact renct_bad A n c l w hv hn hG
  | true =>
    by_cases h0 : n = 0
    · subst h0; exact renct_zero A c l w hv hn hG
    · obtain ⟨b, o, rfl⟩ := vols_some hv (by omega)
      exact renct_pos b o n c l w hv hn hG
end Go.Proofs.YtpmedgibnnonkaaDoor

/- The document's name of four bytes. -/
set_option maxRecDepth 4000
namespace Go.Proofs.YtpmedgibnnonkaaDoor
open Go Go.RowKit
attribute [local go_sem] strB_size
def nmC (s : List (BitVec 8)) (b : Bool) : Array Value := #[.string (strB s), .bool b]
theorem nm_zero : (#[.string ⟨#[]⟩, .bool false] : Array Value) = nmC [] false := by unfold nmC; rw [str_lit0]
theorem one_nm (s : List (BitVec 8)) (b : Bool) : (Value.agg (nmC s b)).cells.all (·.oneCell') = true := by
  rw [Array.all_eq_true_iff_forall_mem]; intro v hv
  have : v ∈ #[Value.string (strB s), Value.bool b] := hv
  simp only [List.mem_toArray, List.mem_cons, List.mem_nil_iff, or_false] at this
  rcases this with rfl | rfl <;> rfl
theorem size_nm : (Tryd.prog.info? 54).map (·.size) = some 2 := by kernel_rfl
theorem neq_b4 (p q : List (BitVec 8)) (hp : p.length = 4) (hq : q.length = 4) (w : World) : (Op.equalIn 10000 50 (.agg (bs p)) (.agg (bs q))).run Tryd.prog w = .ok (decide (p = q)) w := equal_bytes _ 4 p q hp hq Tryd.underlying50 w
theorem first_take {b : List (BitVec 8)} {k : Nat} (hk : k ≤ b.length) (h : ∀ j < k, ¬ b.getD j 0#8 = 0#8) (h0 : k = b.length ∨ b.getD k 0#8 = 0#8) : firstZ b = b.take k := by
  have e : b = b.take k ++ b.drop k := (List.take_append_drop k b).symm
  unfold firstZ
  conv => lhs; rw [e]
  rw [List.takeWhile_append_of_pos]
  · have : (b.drop k).takeWhile (fun x => decide (x ≠ 0#8)) = [] := by
      rcases h0 with rfl | h0
      · rw [List.drop_length]; rfl
      · by_cases hl : k < b.length
        · rw [List.drop_eq_getElem_cons hl, List.takeWhile_cons_of_neg]
          rw [List.getD_eq_getElem?_getD, List.getElem?_eq_getElem hl] at h0
          simpa using h0
        · rw [List.drop_of_length_le (by omega)]; rfl
    rw [this, List.append_nil]
  · intro x hx
    obtain ⟨j, hj, rfl⟩ := List.getElem_of_mem hx
    rw [List.length_take] at hj
    have := h j (by omega)
    rw [List.getD_eq_getElem?_getD, List.getElem?_eq_getElem (by omega)] at this
    rw [List.getElem_take]
    simpa using this
set_option maxRecDepth 20000 in
set_option maxHeartbeats 3200000 in
theorem refcutn_any (b : List (BitVec 8)) (w : World) (hl : b.length = 4) :
    Calls Tryd.prog 22 #[.agg (bs b)] w fun e w' => e = .returned (.agg (nmC (cutN b).1 (cutN b).2)) ∧ Below w.heap.size w w' := by
  rw [← cut_eq hl]
  have HL := Lib.hid hl
  have hnz := nm_zero
  have HS := St.nil w noF
  go_enter Tryd.func22, Tryd.ntmps22
  go_upto_region 2 with (first | ((with_reducible refine wpList_plain ?_ ?_); exact rfl; intro KK hKK; refine wp_st_box HS 50 (.tmp 0) rfl _ rfl (bs b) (rfl) (fun g1 W1 HSx => hKK _ _ ?_); clear hKK KK HS; have HS : St w noF [⟨g1, 50, bs b⟩] W1 := HSx; clear HSx) | ((with_reducible refine wpList_plain ?_ ?_); exact rfl; intro KK hKK; refine wp_st_alloc HS 54 (nmC [] false) rfl (.agg (nmC [] false)) (by kernel_rfl) (nm_zero) (fun g2 W2 HSx => hKK _ _ ?_); clear hKK KK HS; have HS : St w noF [⟨g1, 50, bs b⟩, ⟨g2, 54, nmC [] false⟩] W2 := HSx; clear HSx))
  go_loopw [3] (fun i wr => ∃ k : Nat, k ≤ 4 ∧ i = .int .i64 k ∧ (∀ j < k, ¬ b.getD j 0#8 = 0#8) ∧ wr = W2) (fun i _ => 4 - (intOf i).toNat)
  case atStart => exact ⟨0, by omega, rfl, fun j hj => by omega, rfl⟩
  case round =>
    obtain ⟨k, hk4, rfl, hnz', rfl⟩ := hrel
    have HNZ := Lib.hid hnz'
    clear hnz'
    by_cases h4 : k < 4
    · have hd4 : decide ((k : Int) < 4) = true := decide_eq_true (by omega)
      have hk0 : (0 : Int) ≤ (k : Int) := by omega
      have hk1 : (k : Int) < 4 := by omega
      obtain ⟨x, hx⟩ : ∃ x, b.getD k 0#8 = x := ⟨_, rfl⟩
      have hc : wr.cell? ⟨g1, k, none⟩ = some (.int .u8 (bd x)) := (HS.row 0 rfl).get ((get_bs b k (by rw [HL.out]; exact h4)).trans (congrArg (fun y => some (Value.int .u8 (bd y))) hx))
      have HX := Lib.hid hx
      clear hx
      have hw : IntKind.i64.wrap ((k : Int) + 1) = ((k + 1 : Nat) : Int) := by rw [i64_id _ (by omega) (by omega)]; omega
      by_cases h0 : x = 0#8
      · have hb1 : (bd x == 0) = true := by rw [h0]; rfl
        have HF : Hid (firstZ b = b.take k) := Lib.hid (first_take (by rw [HL.out]; omega) HNZ.out (.inr (by rw [HX.out, h0])))
        clear h0
        obtain ⟨t, ht⟩ : ∃ t, b.take k = t := ⟨_, rfl⟩
        have HTL : Hid (t.length = k) := Lib.hid (by rw [← ht, List.length_take, HL.out]; omega)
        have hsl : Slice wr (.slice (some ⟨g1, 0, none⟩) k 4) t := by
          have := row_piece (HS.row 0 rfl) (off := 0) (n := k) (c := 4) (by rw [HL.out]; omega) hk4
          rwa [List.drop_zero, ht] at this
        have hcv := conv_bytes hsl 9 Tryd.underlying9
        have HR : Hid (cutR b = if (decide (padN t = b) && (decide (t = []) || goodN t)) then (t, true) else ([], false)) := Lib.hid (by unfold cutR okFirst; rw [HF.out, ht])
        have HM : Hid (t.length ≤ maxLen) := Lib.hid (by rw [HTL.out]; unfold maxLen; omega)
        have hk0 : (0 : Int) ≤ (k : Int) := by omega
        have hk4' : (k : Int) ≤ 4 := by omega
        clear ht hsl
        have HQ := Lib.hid (fun W => neq_b4 (padN t) b (length_padN t) HL.out W)
        go_upto_region 5 with fail
        clear HF
        clear hcv
        have hF0 : Wl [fun W => St w noF [⟨g1, 50, bs b⟩, ⟨g2, 54, nmC [] false⟩] W] 0 wr.drew := HS.drew
        by_cases hp : padN t = b
        case neg =>
          have HPD := Lib.hid (decide_eq_false hp)
          have HE : Hid (cutR b = ([], false)) := Lib.hid (by rw [HR.out, HPD.out]; rfl)
          clear hp HS
          refine wp_region_phs [is (.string (strB t)), is ((.agg (bs (padN t)))), is (.agg (bs b)), is (.bool true), is (.bool true), is undef, is undef, is undef, is undef, is undef, is undef, is undef, is undef, is (.bool true)] [true, true, true, true, true, true, true, true, true, true, true, true, true, true] [(fun W => St w noF [⟨g1, 50, bs b⟩, ⟨g2, 54, nmC [] false⟩] W)] [false, false, false, false, false, false, false, false, false, false, false, false, false, false] [some 0, some 0, some 0, some 0, some 0, some 0, some 0, some 0, some 0, some 0, some 0, some 0, some 0, some 0] [some 18, some 19, some 20, some 21, some 22, some 23, some 24, some 25, some 26, some 27, some 28, some 29, some 30, some 31] 14 0 (fun i => !([5, 6, 7, 8, 9, 10, 11, 12] : List Nat).contains i) rfl rfl (by kernel_rfl) (by kernel_rfl) (by kernel_rfl) (by kernel_rfl) ?_ ?_ ?_ ?_ ?_ ?_
          · repeat first | exact wok_nil | refine wok_cons (by first | exact fun _ _ h k => h.same k) ?_
          · repeat first | exact vok_nil | refine vok_rig (by first | exact fun _ _ _ h => h) ?_ | refine vok_soft (by first | exact fun _ _ _ h _ => h) ?_
          · exact hF0
          · repeat first | exact all_end (by decide) | refine all_cons (by first | exact rfl | exact ⟨rfl, fun _ _ h => Or.inl h⟩ | exact ⟨rfl, fun _ _ h => Or.inr ⟨h, rfl⟩⟩) ?_
          · refine allp_mild 0 rfl rfl rfl (fun a x W hout hin hP => ?_) ?_
            · have e4 : a.tmps[4]? = some (.string (strB t)) := (hout 4 (by kernel_rfl)).trans rfl
              exact does_move rfl e4 ⟨Same.refl _, rfl⟩
            refine allp_mild 0 rfl rfl rfl (fun a x W hout hin hP => ?_) ?_
            · have e18 := hin.is 0 18 (by kernel_rfl) (by decide) (by kernel_rfl) (by kernel_rfl) _ rfl
              have C := refpad_any t W HM.out
              clear hP
              clear hin hout
              intro K0 Q hK
              go_simp
              refine C.mono ?_
              rintro e W' ⟨rfl, hb⟩
              exact hK _ _ ⟨hb, rfl⟩
            refine allp_mild 0 rfl rfl rfl (fun a x W hout hin hP => ?_) ?_
            · have e1 : a.tmps[1]? = some (.pointer (some ⟨g1, 0, none⟩)) := (hout 1 (by kernel_rfl)).trans rfl
              clear hin hout
              intro K0 Q hK
              exact wp_st_load hP 0 0 50 (.tmp 1) rfl rfl (eval_of_get e1) (bs b) (slab_whole _) _ Tryd.underlying50 rfl (by rw [size_bs, HL.out]; exact size_b4) (hK _ _ ⟨Same.refl _, rfl⟩)
            refine allp_mild 0 rfl rfl rfl (fun a x W hout hin hP => ?_) ?_
            · have e19 := hin.is 1 19 (by kernel_rfl) (by decide) (by kernel_rfl) (by kernel_rfl) _ rfl
              have e20 := hin.is 2 20 (by kernel_rfl) (by decide) (by kernel_rfl) (by kernel_rfl) _ rfl
              have q := HQ.out W
              rw [HPD.out] at q
              clear hP
              clear hin hout
              intro K0 Q hK
              go_simp
              exact hK _ _ ⟨Same.refl _, rfl⟩
            refine allp_mild 0 rfl rfl rfl (fun a x W hout hin hP => ?_) ?_
            · have e21 := hin.is 3 21 (by kernel_rfl) (by decide) (by kernel_rfl) (by kernel_rfl) _ rfl
              exact does_move rfl e21 ⟨Same.refl _, rfl⟩
            refine allp_skip rfl rfl (fun _ => rfl) ?_
            refine allp_skip rfl rfl (fun _ => rfl) ?_
            refine allp_skip rfl rfl (fun _ => rfl) ?_
            refine allp_skip rfl rfl (fun _ => rfl) ?_
            refine allp_skip rfl rfl (fun _ => rfl) ?_
            refine allp_skip rfl rfl (fun _ => rfl) ?_
            refine allp_skip rfl rfl (fun _ => rfl) ?_
            refine allp_skip rfl rfl (fun _ => rfl) ?_
            refine allp_mild 0 rfl rfl rfl (fun a x W hout hin hP => ?_) ?_
            · have e22 := hin.is 4 22 (by kernel_rfl) (by decide) (by kernel_rfl) (by kernel_rfl) _ rfl
              have e30 := hin.is 12 30 (by kernel_rfl) (by decide) (by kernel_rfl) (by kernel_rfl) _ rfl
              exact does_pick rfl e22 ⟨Same.refl _, rfl⟩
            exact all_end (by decide)
          · intro x W hP hV
            have h31 : x 13 = .bool true := hV 13 (by decide) (.inl (by kernel_rfl))
            have HS : St w noF [⟨g1, 50, bs b⟩, ⟨g2, 54, nmC [] false⟩] W := hP
            clear hV hP
            simp only [putL, Act.put, List.setIfInBounds_toArray, List.set_cons_succ, List.set_cons_zero, h31]
            refine wpAnyH_done (by kernel_rfl) ?_ _
            clear h31
            go_wp2_with (first | ((with_reducible refine wpList_plain ?_ ?_); exact rfl; intro KK hKK; refine wp_st_store HS 1 0 54 (.tmp 2) (.tmp 32) rfl rfl rfl (.agg (nmC [] false)) rfl (size_nm) (Nat.le_of_eq rfl) (one_nm _ _) (nmC [] false) (spl_agg _ _ _ rfl rfl) (fun W11 HSx => hKK _ _ ?_); clear hKK KK HS; have HS : St w noF [⟨g1, 50, bs b⟩, ⟨g2, 54, nmC [] false⟩] W11 := HSx; clear HSx))
            exact bodyPost_ret (v := .agg (nmC [] false)) (results_cell_row Tryd.results22 _ _ g2 54 (nmC [] false) (0, 0) _ rfl (HS.row 1 rfl) Tryd.underlying54 rfl size_nm) rfl ⟨by rw [HE.out], HS.below⟩
        case pos =>
        have HPD := Lib.hid (decide_eq_true hp)
        clear hp
        by_cases h0 : k = 0
        · have hdk : decide ((0 : Int) < (k : Int)) = false := decide_eq_false (by omega)
          have ht0 : t = [] := List.length_eq_zero_iff.1 (by rw [HTL.out, h0])
          have HE : Hid (cutR b = (t, true)) := Lib.hid (by rw [HR.out, HPD.out, decide_eq_true ht0]; rfl)
          clear HS ht0
          refine wp_region_phs [is (.string (strB t)), is ((.agg (bs (padN t)))), is (.agg (bs b)), is (.bool false), is (.bool false), is (.int .i64 k), is (.bool false), is (.bool false), is undef, is undef, is undef, is undef, is (.bool false), is (.bool false)] [true, true, true, true, true, true, true, true, true, true, true, true, true, true] [(fun W => St w noF [⟨g1, 50, bs b⟩, ⟨g2, 54, nmC [] false⟩] W)] [false, false, false, false, false, false, false, false, false, false, false, false, false, false] [some 0, some 0, some 0, some 0, some 0, some 0, some 0, some 0, some 0, some 0, some 0, some 0, some 0, some 0] [some 18, some 19, some 20, some 21, some 22, some 23, some 24, some 25, some 26, some 27, some 28, some 29, some 30, some 31] 14 0 (fun i => !([8, 9, 10, 11] : List Nat).contains i) rfl rfl (by kernel_rfl) (by kernel_rfl) (by kernel_rfl) (by kernel_rfl) ?_ ?_ ?_ ?_ ?_ ?_
          · repeat first | exact wok_nil | refine wok_cons (by first | exact fun _ _ h k => h.same k) ?_
          · repeat first | exact vok_nil | refine vok_rig (by first | exact fun _ _ _ h => h) ?_ | refine vok_soft (by first | exact fun _ _ _ h _ => h) ?_
          · exact hF0
          · repeat first | exact all_end (by decide) | refine all_cons (by first | exact rfl | exact ⟨rfl, fun _ _ h => Or.inl h⟩ | exact ⟨rfl, fun _ _ h => Or.inr ⟨h, rfl⟩⟩) ?_
          · refine allp_mild 0 rfl rfl rfl (fun a x W hout hin hP => ?_) ?_
            · have e4 : a.tmps[4]? = some (.string (strB t)) := (hout 4 (by kernel_rfl)).trans rfl
              exact does_move rfl e4 ⟨Same.refl _, rfl⟩
            refine allp_mild 0 rfl rfl rfl (fun a x W hout hin hP => ?_) ?_
            · have e18 := hin.is 0 18 (by kernel_rfl) (by decide) (by kernel_rfl) (by kernel_rfl) _ rfl
              have C := refpad_any t W HM.out
              clear hP
              clear hin hout
              intro K0 Q hK
              go_simp
              refine C.mono ?_
              rintro e W' ⟨rfl, hb⟩
              exact hK _ _ ⟨hb, rfl⟩
            refine allp_mild 0 rfl rfl rfl (fun a x W hout hin hP => ?_) ?_
            · have e1 : a.tmps[1]? = some (.pointer (some ⟨g1, 0, none⟩)) := (hout 1 (by kernel_rfl)).trans rfl
              clear hin hout
              intro K0 Q hK
              exact wp_st_load hP 0 0 50 (.tmp 1) rfl rfl (eval_of_get e1) (bs b) (slab_whole _) _ Tryd.underlying50 rfl (by rw [size_bs, HL.out]; exact size_b4) (hK _ _ ⟨Same.refl _, rfl⟩)
            refine allp_mild 0 rfl rfl rfl (fun a x W hout hin hP => ?_) ?_
            · have e19 := hin.is 1 19 (by kernel_rfl) (by decide) (by kernel_rfl) (by kernel_rfl) _ rfl
              have e20 := hin.is 2 20 (by kernel_rfl) (by decide) (by kernel_rfl) (by kernel_rfl) _ rfl
              have q := HQ.out W
              rw [HPD.out] at q
              clear hP
              clear hin hout
              intro K0 Q hK
              go_simp
              exact hK _ _ ⟨Same.refl _, rfl⟩
            refine allp_mild 0 rfl rfl rfl (fun a x W hout hin hP => ?_) ?_
            · have e21 := hin.is 3 21 (by kernel_rfl) (by decide) (by kernel_rfl) (by kernel_rfl) _ rfl
              exact does_move rfl e21 ⟨Same.refl _, rfl⟩
            refine allp_mild 0 rfl rfl rfl (fun a x W hout hin hP => ?_) ?_
            · have e3 : a.tmps[3]? = some (.int .i64 k) := (hout 3 (by kernel_rfl)).trans rfl
              exact does_move rfl e3 ⟨Same.refl _, rfl⟩
            refine allp_mild 0 rfl rfl rfl (fun a x W hout hin hP => ?_) ?_
            · have e23 := hin.is 5 23 (by kernel_rfl) (by decide) (by kernel_rfl) (by kernel_rfl) _ rfl
              clear hin hout
              intro K Q hK
              go_simp
              exact hK _ _ ⟨Same.refl _, rfl⟩
            refine allp_mild 0 rfl rfl rfl (fun a x W hout hin hP => ?_) ?_
            · have e24 := hin.is 6 24 (by kernel_rfl) (by decide) (by kernel_rfl) (by kernel_rfl) _ rfl
              exact does_move rfl e24 ⟨Same.refl _, rfl⟩
            refine allp_skip rfl rfl (fun _ => rfl) ?_
            refine allp_skip rfl rfl (fun _ => rfl) ?_
            refine allp_skip rfl rfl (fun _ => rfl) ?_
            refine allp_skip rfl rfl (fun _ => rfl) ?_
            refine allp_mild 0 rfl rfl rfl (fun a x W hout hin hP => ?_) ?_
            · have e25 := hin.is 7 25 (by kernel_rfl) (by decide) (by kernel_rfl) (by kernel_rfl) _ rfl
              have e29 := hin.is 11 29 (by kernel_rfl) (by decide) (by kernel_rfl) (by kernel_rfl) _ rfl
              exact does_pick rfl e25 ⟨Same.refl _, rfl⟩
            refine allp_mild 0 rfl rfl rfl (fun a x W hout hin hP => ?_) ?_
            · have e22 := hin.is 4 22 (by kernel_rfl) (by decide) (by kernel_rfl) (by kernel_rfl) _ rfl
              have e30 := hin.is 12 30 (by kernel_rfl) (by decide) (by kernel_rfl) (by kernel_rfl) _ rfl
              exact does_pick rfl e22 ⟨Same.refl _, eval_of_get e30⟩
            exact all_end (by decide)
          · intro x W hP hV
            have h31 : x 13 = .bool false := hV 13 (by decide) (.inl (by kernel_rfl))
            have HS : St w noF [⟨g1, 50, bs b⟩, ⟨g2, 54, nmC [] false⟩] W := hP
            clear hV hP
            simp only [putL, Act.put, List.setIfInBounds_toArray, List.set_cons_succ, List.set_cons_zero, h31]
            refine wpAnyH_done (by kernel_rfl) ?_ _
            clear h31
            go_wp2_with (first | ((with_reducible refine wpList_plain ?_ ?_); exact rfl; intro KK hKK; refine wp_st_store HS 1 0 54 (.tmp 2) (.tmp 34) rfl rfl rfl (.agg (nmC t true)) rfl (size_nm) (Nat.le_of_eq rfl) (one_nm _ _) (nmC t true) (spl_agg _ _ _ rfl rfl) (fun W11 HSx => hKK _ _ ?_); clear hKK KK HS; have HS : St w noF [⟨g1, 50, bs b⟩, ⟨g2, 54, nmC t true⟩] W11 := HSx; clear HSx))
            exact bodyPost_ret (v := .agg (nmC t true)) (results_cell_row Tryd.results22 _ _ g2 54 (nmC t true) (0, 0) _ rfl (HS.row 1 rfl) Tryd.underlying54 rfl size_nm) rfl ⟨by rw [HE.out], HS.below⟩
        · have hdk : decide ((0 : Int) < (k : Int)) = true := decide_eq_true (by omega)
          have hkk : 0 < k := by omega
          have ht0 : ¬ t = [] := fun h => h0 (by rw [← HTL.out, h]; rfl)
          cases hg : goodN t with
          | true =>
            have HG := Lib.hid hg
            have HE : Hid (cutR b = (t, true)) := Lib.hid (by rw [HR.out, HPD.out, hg, Bool.or_true]; rfl)
            clear HS ht0 hg
            refine wp_region_phs [is (.string (strB t)), is ((.agg (bs (padN t)))), is (.agg (bs b)), is (.bool false), is (.bool false), is (.int .i64 k), is (.bool true), is (.bool true), is (.string (strB t)), (fun v W => Strs W v [t]), is (.bool true), is (.bool false), is (.bool false), is (.bool false)] [true, true, true, true, true, true, true, true, true, false, true, true, true, true] [(fun W => St w noF [⟨g1, 50, bs b⟩, ⟨g2, 54, nmC [] false⟩] W)] [false, false, false, false, false, false, false, false, false, false, false, false, false, false] [some 0, some 0, some 0, some 0, some 0, some 0, some 0, some 0, some 0, some 0, some 0, some 0, some 0, some 0] [some 18, some 19, some 20, some 21, some 22, some 23, some 24, some 25, some 26, some 27, some 28, some 29, some 30, some 31] 14 0 (fun _ => true) rfl rfl (by kernel_rfl) (by kernel_rfl) (by kernel_rfl) (by kernel_rfl) ?_ ?_ ?_ ?_ ?_ ?_
            · repeat first | exact wok_nil | refine wok_cons (by first | exact fun _ _ h k => h.same k) ?_
            · repeat first | exact vok_nil | refine vok_rig (by first | exact fun _ _ _ h => h) ?_ | refine vok_soft (by first | exact fun _ _ _ h _ => h | exact fun _ _ _ h k => Strs.below h k (Nat.le_refl _)) ?_
            · exact hF0
            · repeat first | exact all_end (by decide) | refine all_cons (by first | exact rfl | exact ⟨rfl, fun _ _ h => Or.inl h⟩ | exact ⟨rfl, fun _ _ h => Or.inr ⟨h, rfl⟩⟩) ?_
            · refine allp_mild 0 rfl rfl rfl (fun a x W hout hin hP => ?_) ?_
              · have e4 : a.tmps[4]? = some (.string (strB t)) := (hout 4 (by kernel_rfl)).trans rfl
                exact does_move rfl e4 ⟨Same.refl _, rfl⟩
              refine allp_mild 0 rfl rfl rfl (fun a x W hout hin hP => ?_) ?_
              · have e18 := hin.is 0 18 (by kernel_rfl) (by decide) (by kernel_rfl) (by kernel_rfl) _ rfl
                have C := refpad_any t W HM.out
                clear hP
                clear hin hout
                intro K0 Q hK
                go_simp
                refine C.mono ?_
                rintro e W' ⟨rfl, hb⟩
                exact hK _ _ ⟨hb, rfl⟩
              refine allp_mild 0 rfl rfl rfl (fun a x W hout hin hP => ?_) ?_
              · have e1 : a.tmps[1]? = some (.pointer (some ⟨g1, 0, none⟩)) := (hout 1 (by kernel_rfl)).trans rfl
                clear hin hout
                intro K0 Q hK
                exact wp_st_load hP 0 0 50 (.tmp 1) rfl rfl (eval_of_get e1) (bs b) (slab_whole _) _ Tryd.underlying50 rfl (by rw [size_bs, HL.out]; exact size_b4) (hK _ _ ⟨Same.refl _, rfl⟩)
              refine allp_mild 0 rfl rfl rfl (fun a x W hout hin hP => ?_) ?_
              · have e19 := hin.is 1 19 (by kernel_rfl) (by decide) (by kernel_rfl) (by kernel_rfl) _ rfl
                have e20 := hin.is 2 20 (by kernel_rfl) (by decide) (by kernel_rfl) (by kernel_rfl) _ rfl
                have q := HQ.out W
                rw [HPD.out] at q
                clear hP
                clear hin hout
                intro K0 Q hK
                go_simp
                exact hK _ _ ⟨Same.refl _, rfl⟩
              refine allp_mild 0 rfl rfl rfl (fun a x W hout hin hP => ?_) ?_
              · have e21 := hin.is 3 21 (by kernel_rfl) (by decide) (by kernel_rfl) (by kernel_rfl) _ rfl
                exact does_move rfl e21 ⟨Same.refl _, rfl⟩
              refine allp_mild 0 rfl rfl rfl (fun a x W hout hin hP => ?_) ?_
              · have e3 : a.tmps[3]? = some (.int .i64 k) := (hout 3 (by kernel_rfl)).trans rfl
                exact does_move rfl e3 ⟨Same.refl _, rfl⟩
              refine allp_mild 0 rfl rfl rfl (fun a x W hout hin hP => ?_) ?_
              · have e23 := hin.is 5 23 (by kernel_rfl) (by decide) (by kernel_rfl) (by kernel_rfl) _ rfl
                clear hin hout
                intro K Q hK
                go_simp
                exact hK _ _ ⟨Same.refl _, rfl⟩
              refine allp_mild 0 rfl rfl rfl (fun a x W hout hin hP => ?_) ?_
              · have e24 := hin.is 6 24 (by kernel_rfl) (by decide) (by kernel_rfl) (by kernel_rfl) _ rfl
                exact does_move rfl e24 ⟨Same.refl _, rfl⟩
              refine allp_mild 0 rfl rfl rfl (fun a x W hout hin hP => ?_) ?_
              · have e4 : a.tmps[4]? = some (.string (strB t)) := (hout 4 (by kernel_rfl)).trans rfl
                exact does_move rfl e4 ⟨Same.refl _, rfl⟩
              refine allp_mild 0 rfl rfl rfl (fun a x W hout hin hP => ?_) ?_
              · have e26 := hin.is 8 26 (by kernel_rfl) (by decide) (by kernel_rfl) (by kernel_rfl) _ rfl
                clear hP
                clear hin hout
                intro K0 Q hK
                go_simp
                exact hK _ _ ⟨Same.alloc _ _, strs1 W t HM.out 9⟩
              refine allp_mild 0 rfl rfl rfl (fun a x W hout hin hP => ?_) ?_
              · obtain ⟨v27, e27, hv27⟩ := hin.get 9 27 (by kernel_rfl) (by decide) (by kernel_rfl) (.inr ⟨rfl, by kernel_rfl⟩)
                have C := (show goodNs [t] = true by unfold goodNs; simp [HG.out]) ▸ refgoodn_any [t] _ W hv27 (by unfold maxLen; simp)
                clear hP
                clear hin hout
                intro K0 Q hK
                go_simp
                refine C.mono ?_
                rintro e W' ⟨rfl, rfl⟩
                exact hK _ _ ⟨Same.refl _, rfl⟩
              refine allp_mild 0 rfl rfl rfl (fun a x W hout hin hP => ?_) ?_
              · have e28 := hin.is 10 28 (by kernel_rfl) (by decide) (by kernel_rfl) (by kernel_rfl) _ rfl
                exact does_not rfl e28 ⟨Same.refl _, rfl⟩
              refine allp_mild 0 rfl rfl rfl (fun a x W hout hin hP => ?_) ?_
              · have e25 := hin.is 7 25 (by kernel_rfl) (by decide) (by kernel_rfl) (by kernel_rfl) _ rfl
                have e29 := hin.is 11 29 (by kernel_rfl) (by decide) (by kernel_rfl) (by kernel_rfl) _ rfl
                exact does_pick rfl e25 ⟨Same.refl _, eval_of_get e29⟩
              refine allp_mild 0 rfl rfl rfl (fun a x W hout hin hP => ?_) ?_
              · have e22 := hin.is 4 22 (by kernel_rfl) (by decide) (by kernel_rfl) (by kernel_rfl) _ rfl
                have e30 := hin.is 12 30 (by kernel_rfl) (by decide) (by kernel_rfl) (by kernel_rfl) _ rfl
                exact does_pick rfl e22 ⟨Same.refl _, eval_of_get e30⟩
              exact all_end (by decide)
            · intro x W hP hV
              have h31 : x 13 = .bool false := hV 13 (by decide) (.inl (by kernel_rfl))
              have HS : St w noF [⟨g1, 50, bs b⟩, ⟨g2, 54, nmC [] false⟩] W := hP
              clear hV hP
              simp only [putL, Act.put, List.setIfInBounds_toArray, List.set_cons_succ, List.set_cons_zero, h31]
              refine wpAnyH_done (by kernel_rfl) ?_ _
              clear h31
              go_wp2_with (first | ((with_reducible refine wpList_plain ?_ ?_); exact rfl; intro KK hKK; refine wp_st_store HS 1 0 54 (.tmp 2) (.tmp 34) rfl rfl rfl (.agg (nmC t true)) rfl (size_nm) (Nat.le_of_eq rfl) (one_nm _ _) (nmC t true) (spl_agg _ _ _ rfl rfl) (fun W11 HSx => hKK _ _ ?_); clear hKK KK HS; have HS : St w noF [⟨g1, 50, bs b⟩, ⟨g2, 54, nmC t true⟩] W11 := HSx; clear HSx))
              exact bodyPost_ret (v := .agg (nmC t true)) (results_cell_row Tryd.results22 _ _ g2 54 (nmC t true) (0, 0) _ rfl (HS.row 1 rfl) Tryd.underlying54 rfl size_nm) rfl ⟨by rw [HE.out], HS.below⟩
          | false =>
            have HG := Lib.hid hg
            have HE : Hid (cutR b = ([], false)) := Lib.hid (by rw [HR.out, HPD.out, hg, decide_eq_false ht0]; rfl)
            clear HS ht0 hg
            refine wp_region_phs [is (.string (strB t)), is ((.agg (bs (padN t)))), is (.agg (bs b)), is (.bool false), is (.bool false), is (.int .i64 k), is (.bool true), is (.bool true), is (.string (strB t)), (fun v W => Strs W v [t]), is (.bool false), is (.bool true), is (.bool true), is (.bool true)] [true, true, true, true, true, true, true, true, true, false, true, true, true, true] [(fun W => St w noF [⟨g1, 50, bs b⟩, ⟨g2, 54, nmC [] false⟩] W)] [false, false, false, false, false, false, false, false, false, false, false, false, false, false] [some 0, some 0, some 0, some 0, some 0, some 0, some 0, some 0, some 0, some 0, some 0, some 0, some 0, some 0] [some 18, some 19, some 20, some 21, some 22, some 23, some 24, some 25, some 26, some 27, some 28, some 29, some 30, some 31] 14 0 (fun _ => true) rfl rfl (by kernel_rfl) (by kernel_rfl) (by kernel_rfl) (by kernel_rfl) ?_ ?_ ?_ ?_ ?_ ?_
            · repeat first | exact wok_nil | refine wok_cons (by first | exact fun _ _ h k => h.same k) ?_
            · repeat first | exact vok_nil | refine vok_rig (by first | exact fun _ _ _ h => h) ?_ | refine vok_soft (by first | exact fun _ _ _ h _ => h | exact fun _ _ _ h k => Strs.below h k (Nat.le_refl _)) ?_
            · exact hF0
            · repeat first | exact all_end (by decide) | refine all_cons (by first | exact rfl | exact ⟨rfl, fun _ _ h => Or.inl h⟩ | exact ⟨rfl, fun _ _ h => Or.inr ⟨h, rfl⟩⟩) ?_
            · refine allp_mild 0 rfl rfl rfl (fun a x W hout hin hP => ?_) ?_
              · have e4 : a.tmps[4]? = some (.string (strB t)) := (hout 4 (by kernel_rfl)).trans rfl
                exact does_move rfl e4 ⟨Same.refl _, rfl⟩
              refine allp_mild 0 rfl rfl rfl (fun a x W hout hin hP => ?_) ?_
              · have e18 := hin.is 0 18 (by kernel_rfl) (by decide) (by kernel_rfl) (by kernel_rfl) _ rfl
                have C := refpad_any t W HM.out
                clear hP
                clear hin hout
                intro K0 Q hK
                go_simp
                refine C.mono ?_
                rintro e W' ⟨rfl, hb⟩
                exact hK _ _ ⟨hb, rfl⟩
              refine allp_mild 0 rfl rfl rfl (fun a x W hout hin hP => ?_) ?_
              · have e1 : a.tmps[1]? = some (.pointer (some ⟨g1, 0, none⟩)) := (hout 1 (by kernel_rfl)).trans rfl
                clear hin hout
                intro K0 Q hK
                exact wp_st_load hP 0 0 50 (.tmp 1) rfl rfl (eval_of_get e1) (bs b) (slab_whole _) _ Tryd.underlying50 rfl (by rw [size_bs, HL.out]; exact size_b4) (hK _ _ ⟨Same.refl _, rfl⟩)
              refine allp_mild 0 rfl rfl rfl (fun a x W hout hin hP => ?_) ?_
              · have e19 := hin.is 1 19 (by kernel_rfl) (by decide) (by kernel_rfl) (by kernel_rfl) _ rfl
                have e20 := hin.is 2 20 (by kernel_rfl) (by decide) (by kernel_rfl) (by kernel_rfl) _ rfl
                have q := HQ.out W
                rw [HPD.out] at q
                clear hP
                clear hin hout
                intro K0 Q hK
                go_simp
                exact hK _ _ ⟨Same.refl _, rfl⟩
              refine allp_mild 0 rfl rfl rfl (fun a x W hout hin hP => ?_) ?_
              · have e21 := hin.is 3 21 (by kernel_rfl) (by decide) (by kernel_rfl) (by kernel_rfl) _ rfl
                exact does_move rfl e21 ⟨Same.refl _, rfl⟩
              refine allp_mild 0 rfl rfl rfl (fun a x W hout hin hP => ?_) ?_
              · have e3 : a.tmps[3]? = some (.int .i64 k) := (hout 3 (by kernel_rfl)).trans rfl
                exact does_move rfl e3 ⟨Same.refl _, rfl⟩
              refine allp_mild 0 rfl rfl rfl (fun a x W hout hin hP => ?_) ?_
              · have e23 := hin.is 5 23 (by kernel_rfl) (by decide) (by kernel_rfl) (by kernel_rfl) _ rfl
                clear hin hout
                intro K Q hK
                go_simp
                exact hK _ _ ⟨Same.refl _, rfl⟩
              refine allp_mild 0 rfl rfl rfl (fun a x W hout hin hP => ?_) ?_
              · have e24 := hin.is 6 24 (by kernel_rfl) (by decide) (by kernel_rfl) (by kernel_rfl) _ rfl
                exact does_move rfl e24 ⟨Same.refl _, rfl⟩
              refine allp_mild 0 rfl rfl rfl (fun a x W hout hin hP => ?_) ?_
              · have e4 : a.tmps[4]? = some (.string (strB t)) := (hout 4 (by kernel_rfl)).trans rfl
                exact does_move rfl e4 ⟨Same.refl _, rfl⟩
              refine allp_mild 0 rfl rfl rfl (fun a x W hout hin hP => ?_) ?_
              · have e26 := hin.is 8 26 (by kernel_rfl) (by decide) (by kernel_rfl) (by kernel_rfl) _ rfl
                clear hP
                clear hin hout
                intro K0 Q hK
                go_simp
                exact hK _ _ ⟨Same.alloc _ _, strs1 W t HM.out 9⟩
              refine allp_mild 0 rfl rfl rfl (fun a x W hout hin hP => ?_) ?_
              · obtain ⟨v27, e27, hv27⟩ := hin.get 9 27 (by kernel_rfl) (by decide) (by kernel_rfl) (.inr ⟨rfl, by kernel_rfl⟩)
                have C := (show goodNs [t] = false by unfold goodNs; simp [HG.out]) ▸ refgoodn_any [t] _ W hv27 (by unfold maxLen; simp)
                clear hP
                clear hin hout
                intro K0 Q hK
                go_simp
                refine C.mono ?_
                rintro e W' ⟨rfl, rfl⟩
                exact hK _ _ ⟨Same.refl _, rfl⟩
              refine allp_mild 0 rfl rfl rfl (fun a x W hout hin hP => ?_) ?_
              · have e28 := hin.is 10 28 (by kernel_rfl) (by decide) (by kernel_rfl) (by kernel_rfl) _ rfl
                exact does_not rfl e28 ⟨Same.refl _, rfl⟩
              refine allp_mild 0 rfl rfl rfl (fun a x W hout hin hP => ?_) ?_
              · have e25 := hin.is 7 25 (by kernel_rfl) (by decide) (by kernel_rfl) (by kernel_rfl) _ rfl
                have e29 := hin.is 11 29 (by kernel_rfl) (by decide) (by kernel_rfl) (by kernel_rfl) _ rfl
                exact does_pick rfl e25 ⟨Same.refl _, eval_of_get e29⟩
              refine allp_mild 0 rfl rfl rfl (fun a x W hout hin hP => ?_) ?_
              · have e22 := hin.is 4 22 (by kernel_rfl) (by decide) (by kernel_rfl) (by kernel_rfl) _ rfl
                have e30 := hin.is 12 30 (by kernel_rfl) (by decide) (by kernel_rfl) (by kernel_rfl) _ rfl
                exact does_pick rfl e22 ⟨Same.refl _, eval_of_get e30⟩
              exact all_end (by decide)
            · intro x W hP hV
              have h31 : x 13 = .bool true := hV 13 (by decide) (.inl (by kernel_rfl))
              have HS : St w noF [⟨g1, 50, bs b⟩, ⟨g2, 54, nmC [] false⟩] W := hP
              clear hV hP
              simp only [putL, Act.put, List.setIfInBounds_toArray, List.set_cons_succ, List.set_cons_zero, h31]
              refine wpAnyH_done (by kernel_rfl) ?_ _
              clear h31
              go_wp2_with (first | ((with_reducible refine wpList_plain ?_ ?_); exact rfl; intro KK hKK; refine wp_st_store HS 1 0 54 (.tmp 2) (.tmp 32) rfl rfl rfl (.agg (nmC [] false)) rfl (size_nm) (Nat.le_of_eq rfl) (one_nm _ _) (nmC [] false) (spl_agg _ _ _ rfl rfl) (fun W11 HSx => hKK _ _ ?_); clear hKK KK HS; have HS : St w noF [⟨g1, 50, bs b⟩, ⟨g2, 54, nmC [] false⟩] W11 := HSx; clear HSx))
              exact bodyPost_ret (v := .agg (nmC [] false)) (results_cell_row Tryd.results22 _ _ g2 54 (nmC [] false) (0, 0) _ rfl (HS.row 1 rfl) Tryd.underlying54 rfl size_nm) rfl ⟨by rw [HE.out], HS.below⟩
      · have hb1 : (bd x == 0) = false := beq_eq_false_iff_ne.2 fun e => h0 (bd_inj (by rw [e]; rfl))
        have HX0 : Hid (¬ b.getD k 0#8 = 0#8) := Lib.hid (by rw [HX.out]; exact h0)
        clear h0
        go_wp2_with fail
        refine ⟨⟨k + 1, by omega, by go_num, fun j hj => ?_, trivial⟩, by simp [intOf]; omega⟩
        rcases Nat.lt_succ_iff_lt_or_eq.1 hj with h | h
        · exact HNZ.out j h
        · subst h; exact HX0.out
    · have hd4 : decide ((k : Int) < 4) = false := decide_eq_false (by omega)
      have HF : Hid (firstZ b = b.take k) := Lib.hid (first_take (by rw [HL.out]; omega) HNZ.out (.inl (by rw [HL.out]; omega)))
      obtain ⟨t, ht⟩ : ∃ t, b.take k = t := ⟨_, rfl⟩
      have HTL : Hid (t.length = k) := Lib.hid (by rw [← ht, List.length_take, HL.out]; omega)
      have hsl : Slice wr (.slice (some ⟨g1, 0, none⟩) k 4) t := by
        have := row_piece (HS.row 0 rfl) (off := 0) (n := k) (c := 4) (by rw [HL.out]; omega) hk4
        rwa [List.drop_zero, ht] at this
      have hcv := conv_bytes hsl 9 Tryd.underlying9
      have HR : Hid (cutR b = if (decide (padN t = b) && (decide (t = []) || goodN t)) then (t, true) else ([], false)) := Lib.hid (by unfold cutR okFirst; rw [HF.out, ht])
      have HM : Hid (t.length ≤ maxLen) := Lib.hid (by rw [HTL.out]; unfold maxLen; omega)
      have hk0 : (0 : Int) ≤ (k : Int) := by omega
      have hk4' : (k : Int) ≤ 4 := by omega
      clear ht hsl
      have HQ := Lib.hid (fun W => neq_b4 (padN t) b (length_padN t) HL.out W)
      go_upto_region 5 with fail
      clear HF
      clear hcv
      have hF0 : Wl [fun W => St w noF [⟨g1, 50, bs b⟩, ⟨g2, 54, nmC [] false⟩] W] 0 wr.drew := HS.drew
      by_cases hp : padN t = b
      case neg =>
        have HPD := Lib.hid (decide_eq_false hp)
        have HE : Hid (cutR b = ([], false)) := Lib.hid (by rw [HR.out, HPD.out]; rfl)
        clear hp HS
        refine wp_region_phs [is (.string (strB t)), is ((.agg (bs (padN t)))), is (.agg (bs b)), is (.bool true), is (.bool true), is undef, is undef, is undef, is undef, is undef, is undef, is undef, is undef, is (.bool true)] [true, true, true, true, true, true, true, true, true, true, true, true, true, true] [(fun W => St w noF [⟨g1, 50, bs b⟩, ⟨g2, 54, nmC [] false⟩] W)] [false, false, false, false, false, false, false, false, false, false, false, false, false, false] [some 0, some 0, some 0, some 0, some 0, some 0, some 0, some 0, some 0, some 0, some 0, some 0, some 0, some 0] [some 18, some 19, some 20, some 21, some 22, some 23, some 24, some 25, some 26, some 27, some 28, some 29, some 30, some 31] 14 0 (fun i => !([5, 6, 7, 8, 9, 10, 11, 12] : List Nat).contains i) rfl rfl (by kernel_rfl) (by kernel_rfl) (by kernel_rfl) (by kernel_rfl) ?_ ?_ ?_ ?_ ?_ ?_
        · repeat first | exact wok_nil | refine wok_cons (by first | exact fun _ _ h k => h.same k) ?_
        · repeat first | exact vok_nil | refine vok_rig (by first | exact fun _ _ _ h => h) ?_ | refine vok_soft (by first | exact fun _ _ _ h _ => h) ?_
        · exact hF0
        · repeat first | exact all_end (by decide) | refine all_cons (by first | exact rfl | exact ⟨rfl, fun _ _ h => Or.inl h⟩ | exact ⟨rfl, fun _ _ h => Or.inr ⟨h, rfl⟩⟩) ?_
        · refine allp_mild 0 rfl rfl rfl (fun a x W hout hin hP => ?_) ?_
          · have e4 : a.tmps[4]? = some (.string (strB t)) := (hout 4 (by kernel_rfl)).trans rfl
            exact does_move rfl e4 ⟨Same.refl _, rfl⟩
          refine allp_mild 0 rfl rfl rfl (fun a x W hout hin hP => ?_) ?_
          · have e18 := hin.is 0 18 (by kernel_rfl) (by decide) (by kernel_rfl) (by kernel_rfl) _ rfl
            have C := refpad_any t W HM.out
            clear hP
            clear hin hout
            intro K0 Q hK
            go_simp
            refine C.mono ?_
            rintro e W' ⟨rfl, hb⟩
            exact hK _ _ ⟨hb, rfl⟩
          refine allp_mild 0 rfl rfl rfl (fun a x W hout hin hP => ?_) ?_
          · have e1 : a.tmps[1]? = some (.pointer (some ⟨g1, 0, none⟩)) := (hout 1 (by kernel_rfl)).trans rfl
            clear hin hout
            intro K0 Q hK
            exact wp_st_load hP 0 0 50 (.tmp 1) rfl rfl (eval_of_get e1) (bs b) (slab_whole _) _ Tryd.underlying50 rfl (by rw [size_bs, HL.out]; exact size_b4) (hK _ _ ⟨Same.refl _, rfl⟩)
          refine allp_mild 0 rfl rfl rfl (fun a x W hout hin hP => ?_) ?_
          · have e19 := hin.is 1 19 (by kernel_rfl) (by decide) (by kernel_rfl) (by kernel_rfl) _ rfl
            have e20 := hin.is 2 20 (by kernel_rfl) (by decide) (by kernel_rfl) (by kernel_rfl) _ rfl
            have q := HQ.out W
            rw [HPD.out] at q
            clear hP
            clear hin hout
            intro K0 Q hK
            go_simp
            exact hK _ _ ⟨Same.refl _, rfl⟩
          refine allp_mild 0 rfl rfl rfl (fun a x W hout hin hP => ?_) ?_
          · have e21 := hin.is 3 21 (by kernel_rfl) (by decide) (by kernel_rfl) (by kernel_rfl) _ rfl
            exact does_move rfl e21 ⟨Same.refl _, rfl⟩
          refine allp_skip rfl rfl (fun _ => rfl) ?_
          refine allp_skip rfl rfl (fun _ => rfl) ?_
          refine allp_skip rfl rfl (fun _ => rfl) ?_
          refine allp_skip rfl rfl (fun _ => rfl) ?_
          refine allp_skip rfl rfl (fun _ => rfl) ?_
          refine allp_skip rfl rfl (fun _ => rfl) ?_
          refine allp_skip rfl rfl (fun _ => rfl) ?_
          refine allp_skip rfl rfl (fun _ => rfl) ?_
          refine allp_mild 0 rfl rfl rfl (fun a x W hout hin hP => ?_) ?_
          · have e22 := hin.is 4 22 (by kernel_rfl) (by decide) (by kernel_rfl) (by kernel_rfl) _ rfl
            have e30 := hin.is 12 30 (by kernel_rfl) (by decide) (by kernel_rfl) (by kernel_rfl) _ rfl
            exact does_pick rfl e22 ⟨Same.refl _, rfl⟩
          exact all_end (by decide)
        · intro x W hP hV
          have h31 : x 13 = .bool true := hV 13 (by decide) (.inl (by kernel_rfl))
          have HS : St w noF [⟨g1, 50, bs b⟩, ⟨g2, 54, nmC [] false⟩] W := hP
          clear hV hP
          simp only [putL, Act.put, List.setIfInBounds_toArray, List.set_cons_succ, List.set_cons_zero, h31]
          refine wpAnyH_done (by kernel_rfl) ?_ _
          clear h31
          go_wp2_with (first | ((with_reducible refine wpList_plain ?_ ?_); exact rfl; intro KK hKK; refine wp_st_store HS 1 0 54 (.tmp 2) (.tmp 32) rfl rfl rfl (.agg (nmC [] false)) rfl (size_nm) (Nat.le_of_eq rfl) (one_nm _ _) (nmC [] false) (spl_agg _ _ _ rfl rfl) (fun W11 HSx => hKK _ _ ?_); clear hKK KK HS; have HS : St w noF [⟨g1, 50, bs b⟩, ⟨g2, 54, nmC [] false⟩] W11 := HSx; clear HSx))
          exact bodyPost_ret (v := .agg (nmC [] false)) (results_cell_row Tryd.results22 _ _ g2 54 (nmC [] false) (0, 0) _ rfl (HS.row 1 rfl) Tryd.underlying54 rfl size_nm) rfl ⟨by rw [HE.out], HS.below⟩
      case pos =>
      have HPD := Lib.hid (decide_eq_true hp)
      clear hp
      by_cases h0 : k = 0
      · exact absurd h0 (by omega)
      · have hdk : decide ((0 : Int) < (k : Int)) = true := decide_eq_true (by omega)
        have hkk : 0 < k := by omega
        have ht0 : ¬ t = [] := fun h => h0 (by rw [← HTL.out, h]; rfl)
        cases hg : goodN t with
        | true =>
          have HG := Lib.hid hg
          have HE : Hid (cutR b = (t, true)) := Lib.hid (by rw [HR.out, HPD.out, hg, Bool.or_true]; rfl)
          clear HS ht0 hg
          refine wp_region_phs [is (.string (strB t)), is ((.agg (bs (padN t)))), is (.agg (bs b)), is (.bool false), is (.bool false), is (.int .i64 k), is (.bool true), is (.bool true), is (.string (strB t)), (fun v W => Strs W v [t]), is (.bool true), is (.bool false), is (.bool false), is (.bool false)] [true, true, true, true, true, true, true, true, true, false, true, true, true, true] [(fun W => St w noF [⟨g1, 50, bs b⟩, ⟨g2, 54, nmC [] false⟩] W)] [false, false, false, false, false, false, false, false, false, false, false, false, false, false] [some 0, some 0, some 0, some 0, some 0, some 0, some 0, some 0, some 0, some 0, some 0, some 0, some 0, some 0] [some 18, some 19, some 20, some 21, some 22, some 23, some 24, some 25, some 26, some 27, some 28, some 29, some 30, some 31] 14 0 (fun _ => true) rfl rfl (by kernel_rfl) (by kernel_rfl) (by kernel_rfl) (by kernel_rfl) ?_ ?_ ?_ ?_ ?_ ?_
          · repeat first | exact wok_nil | refine wok_cons (by first | exact fun _ _ h k => h.same k) ?_
          · repeat first | exact vok_nil | refine vok_rig (by first | exact fun _ _ _ h => h) ?_ | refine vok_soft (by first | exact fun _ _ _ h _ => h | exact fun _ _ _ h k => Strs.below h k (Nat.le_refl _)) ?_
          · exact hF0
          · repeat first | exact all_end (by decide) | refine all_cons (by first | exact rfl | exact ⟨rfl, fun _ _ h => Or.inl h⟩ | exact ⟨rfl, fun _ _ h => Or.inr ⟨h, rfl⟩⟩) ?_
          · refine allp_mild 0 rfl rfl rfl (fun a x W hout hin hP => ?_) ?_
            · have e4 : a.tmps[4]? = some (.string (strB t)) := (hout 4 (by kernel_rfl)).trans rfl
              exact does_move rfl e4 ⟨Same.refl _, rfl⟩
            refine allp_mild 0 rfl rfl rfl (fun a x W hout hin hP => ?_) ?_
            · have e18 := hin.is 0 18 (by kernel_rfl) (by decide) (by kernel_rfl) (by kernel_rfl) _ rfl
              have C := refpad_any t W HM.out
              clear hP
              clear hin hout
              intro K0 Q hK
              go_simp
              refine C.mono ?_
              rintro e W' ⟨rfl, hb⟩
              exact hK _ _ ⟨hb, rfl⟩
            refine allp_mild 0 rfl rfl rfl (fun a x W hout hin hP => ?_) ?_
            · have e1 : a.tmps[1]? = some (.pointer (some ⟨g1, 0, none⟩)) := (hout 1 (by kernel_rfl)).trans rfl
              clear hin hout
              intro K0 Q hK
              exact wp_st_load hP 0 0 50 (.tmp 1) rfl rfl (eval_of_get e1) (bs b) (slab_whole _) _ Tryd.underlying50 rfl (by rw [size_bs, HL.out]; exact size_b4) (hK _ _ ⟨Same.refl _, rfl⟩)
            refine allp_mild 0 rfl rfl rfl (fun a x W hout hin hP => ?_) ?_
            · have e19 := hin.is 1 19 (by kernel_rfl) (by decide) (by kernel_rfl) (by kernel_rfl) _ rfl
              have e20 := hin.is 2 20 (by kernel_rfl) (by decide) (by kernel_rfl) (by kernel_rfl) _ rfl
              have q := HQ.out W
              rw [HPD.out] at q
              clear hP
              clear hin hout
              intro K0 Q hK
              go_simp
              exact hK _ _ ⟨Same.refl _, rfl⟩
            refine allp_mild 0 rfl rfl rfl (fun a x W hout hin hP => ?_) ?_
            · have e21 := hin.is 3 21 (by kernel_rfl) (by decide) (by kernel_rfl) (by kernel_rfl) _ rfl
              exact does_move rfl e21 ⟨Same.refl _, rfl⟩
            refine allp_mild 0 rfl rfl rfl (fun a x W hout hin hP => ?_) ?_
            · have e3 : a.tmps[3]? = some (.int .i64 k) := (hout 3 (by kernel_rfl)).trans rfl
              exact does_move rfl e3 ⟨Same.refl _, rfl⟩
            refine allp_mild 0 rfl rfl rfl (fun a x W hout hin hP => ?_) ?_
            · have e23 := hin.is 5 23 (by kernel_rfl) (by decide) (by kernel_rfl) (by kernel_rfl) _ rfl
              clear hin hout
              intro K Q hK
              go_simp
              exact hK _ _ ⟨Same.refl _, rfl⟩
            refine allp_mild 0 rfl rfl rfl (fun a x W hout hin hP => ?_) ?_
            · have e24 := hin.is 6 24 (by kernel_rfl) (by decide) (by kernel_rfl) (by kernel_rfl) _ rfl
              exact does_move rfl e24 ⟨Same.refl _, rfl⟩
            refine allp_mild 0 rfl rfl rfl (fun a x W hout hin hP => ?_) ?_
            · have e4 : a.tmps[4]? = some (.string (strB t)) := (hout 4 (by kernel_rfl)).trans rfl
              exact does_move rfl e4 ⟨Same.refl _, rfl⟩
            refine allp_mild 0 rfl rfl rfl (fun a x W hout hin hP => ?_) ?_
            · have e26 := hin.is 8 26 (by kernel_rfl) (by decide) (by kernel_rfl) (by kernel_rfl) _ rfl
              clear hP
              clear hin hout
              intro K0 Q hK
              go_simp
              exact hK _ _ ⟨Same.alloc _ _, strs1 W t HM.out 9⟩
            refine allp_mild 0 rfl rfl rfl (fun a x W hout hin hP => ?_) ?_
            · obtain ⟨v27, e27, hv27⟩ := hin.get 9 27 (by kernel_rfl) (by decide) (by kernel_rfl) (.inr ⟨rfl, by kernel_rfl⟩)
              have C := (show goodNs [t] = true by unfold goodNs; simp [HG.out]) ▸ refgoodn_any [t] _ W hv27 (by unfold maxLen; simp)
              clear hP
              clear hin hout
              intro K0 Q hK
              go_simp
              refine C.mono ?_
              rintro e W' ⟨rfl, rfl⟩
              exact hK _ _ ⟨Same.refl _, rfl⟩
            refine allp_mild 0 rfl rfl rfl (fun a x W hout hin hP => ?_) ?_
            · have e28 := hin.is 10 28 (by kernel_rfl) (by decide) (by kernel_rfl) (by kernel_rfl) _ rfl
              exact does_not rfl e28 ⟨Same.refl _, rfl⟩
            refine allp_mild 0 rfl rfl rfl (fun a x W hout hin hP => ?_) ?_
            · have e25 := hin.is 7 25 (by kernel_rfl) (by decide) (by kernel_rfl) (by kernel_rfl) _ rfl
              have e29 := hin.is 11 29 (by kernel_rfl) (by decide) (by kernel_rfl) (by kernel_rfl) _ rfl
              exact does_pick rfl e25 ⟨Same.refl _, eval_of_get e29⟩
            refine allp_mild 0 rfl rfl rfl (fun a x W hout hin hP => ?_) ?_
            · have e22 := hin.is 4 22 (by kernel_rfl) (by decide) (by kernel_rfl) (by kernel_rfl) _ rfl
              have e30 := hin.is 12 30 (by kernel_rfl) (by decide) (by kernel_rfl) (by kernel_rfl) _ rfl
              exact does_pick rfl e22 ⟨Same.refl _, eval_of_get e30⟩
            exact all_end (by decide)
          · intro x W hP hV
            have h31 : x 13 = .bool false := hV 13 (by decide) (.inl (by kernel_rfl))
            have HS : St w noF [⟨g1, 50, bs b⟩, ⟨g2, 54, nmC [] false⟩] W := hP
            clear hV hP
            simp only [putL, Act.put, List.setIfInBounds_toArray, List.set_cons_succ, List.set_cons_zero, h31]
            refine wpAnyH_done (by kernel_rfl) ?_ _
            clear h31
            go_wp2_with (first | ((with_reducible refine wpList_plain ?_ ?_); exact rfl; intro KK hKK; refine wp_st_store HS 1 0 54 (.tmp 2) (.tmp 34) rfl rfl rfl (.agg (nmC t true)) rfl (size_nm) (Nat.le_of_eq rfl) (one_nm _ _) (nmC t true) (spl_agg _ _ _ rfl rfl) (fun W11 HSx => hKK _ _ ?_); clear hKK KK HS; have HS : St w noF [⟨g1, 50, bs b⟩, ⟨g2, 54, nmC t true⟩] W11 := HSx; clear HSx))
            exact bodyPost_ret (v := .agg (nmC t true)) (results_cell_row Tryd.results22 _ _ g2 54 (nmC t true) (0, 0) _ rfl (HS.row 1 rfl) Tryd.underlying54 rfl size_nm) rfl ⟨by rw [HE.out], HS.below⟩
        | false =>
          have HG := Lib.hid hg
          have HE : Hid (cutR b = ([], false)) := Lib.hid (by rw [HR.out, HPD.out, hg, decide_eq_false ht0]; rfl)
          clear HS ht0 hg
          refine wp_region_phs [is (.string (strB t)), is ((.agg (bs (padN t)))), is (.agg (bs b)), is (.bool false), is (.bool false), is (.int .i64 k), is (.bool true), is (.bool true), is (.string (strB t)), (fun v W => Strs W v [t]), is (.bool false), is (.bool true), is (.bool true), is (.bool true)] [true, true, true, true, true, true, true, true, true, false, true, true, true, true] [(fun W => St w noF [⟨g1, 50, bs b⟩, ⟨g2, 54, nmC [] false⟩] W)] [false, false, false, false, false, false, false, false, false, false, false, false, false, false] [some 0, some 0, some 0, some 0, some 0, some 0, some 0, some 0, some 0, some 0, some 0, some 0, some 0, some 0] [some 18, some 19, some 20, some 21, some 22, some 23, some 24, some 25, some 26, some 27, some 28, some 29, some 30, some 31] 14 0 (fun _ => true) rfl rfl (by kernel_rfl) (by kernel_rfl) (by kernel_rfl) (by kernel_rfl) ?_ ?_ ?_ ?_ ?_ ?_
          · repeat first | exact wok_nil | refine wok_cons (by first | exact fun _ _ h k => h.same k) ?_
          · repeat first | exact vok_nil | refine vok_rig (by first | exact fun _ _ _ h => h) ?_ | refine vok_soft (by first | exact fun _ _ _ h _ => h | exact fun _ _ _ h k => Strs.below h k (Nat.le_refl _)) ?_
          · exact hF0
          · repeat first | exact all_end (by decide) | refine all_cons (by first | exact rfl | exact ⟨rfl, fun _ _ h => Or.inl h⟩ | exact ⟨rfl, fun _ _ h => Or.inr ⟨h, rfl⟩⟩) ?_
          · refine allp_mild 0 rfl rfl rfl (fun a x W hout hin hP => ?_) ?_
            · have e4 : a.tmps[4]? = some (.string (strB t)) := (hout 4 (by kernel_rfl)).trans rfl
              exact does_move rfl e4 ⟨Same.refl _, rfl⟩
            refine allp_mild 0 rfl rfl rfl (fun a x W hout hin hP => ?_) ?_
            · have e18 := hin.is 0 18 (by kernel_rfl) (by decide) (by kernel_rfl) (by kernel_rfl) _ rfl
              have C := refpad_any t W HM.out
              clear hP
              clear hin hout
              intro K0 Q hK
              go_simp
              refine C.mono ?_
              rintro e W' ⟨rfl, hb⟩
              exact hK _ _ ⟨hb, rfl⟩
            refine allp_mild 0 rfl rfl rfl (fun a x W hout hin hP => ?_) ?_
            · have e1 : a.tmps[1]? = some (.pointer (some ⟨g1, 0, none⟩)) := (hout 1 (by kernel_rfl)).trans rfl
              clear hin hout
              intro K0 Q hK
              exact wp_st_load hP 0 0 50 (.tmp 1) rfl rfl (eval_of_get e1) (bs b) (slab_whole _) _ Tryd.underlying50 rfl (by rw [size_bs, HL.out]; exact size_b4) (hK _ _ ⟨Same.refl _, rfl⟩)
            refine allp_mild 0 rfl rfl rfl (fun a x W hout hin hP => ?_) ?_
            · have e19 := hin.is 1 19 (by kernel_rfl) (by decide) (by kernel_rfl) (by kernel_rfl) _ rfl
              have e20 := hin.is 2 20 (by kernel_rfl) (by decide) (by kernel_rfl) (by kernel_rfl) _ rfl
              have q := HQ.out W
              rw [HPD.out] at q
              clear hP
              clear hin hout
              intro K0 Q hK
              go_simp
              exact hK _ _ ⟨Same.refl _, rfl⟩
            refine allp_mild 0 rfl rfl rfl (fun a x W hout hin hP => ?_) ?_
            · have e21 := hin.is 3 21 (by kernel_rfl) (by decide) (by kernel_rfl) (by kernel_rfl) _ rfl
              exact does_move rfl e21 ⟨Same.refl _, rfl⟩
            refine allp_mild 0 rfl rfl rfl (fun a x W hout hin hP => ?_) ?_
            · have e3 : a.tmps[3]? = some (.int .i64 k) := (hout 3 (by kernel_rfl)).trans rfl
              exact does_move rfl e3 ⟨Same.refl _, rfl⟩
            refine allp_mild 0 rfl rfl rfl (fun a x W hout hin hP => ?_) ?_
            · have e23 := hin.is 5 23 (by kernel_rfl) (by decide) (by kernel_rfl) (by kernel_rfl) _ rfl
              clear hin hout
              intro K Q hK
              go_simp
              exact hK _ _ ⟨Same.refl _, rfl⟩
            refine allp_mild 0 rfl rfl rfl (fun a x W hout hin hP => ?_) ?_
            · have e24 := hin.is 6 24 (by kernel_rfl) (by decide) (by kernel_rfl) (by kernel_rfl) _ rfl
              exact does_move rfl e24 ⟨Same.refl _, rfl⟩
            refine allp_mild 0 rfl rfl rfl (fun a x W hout hin hP => ?_) ?_
            · have e4 : a.tmps[4]? = some (.string (strB t)) := (hout 4 (by kernel_rfl)).trans rfl
              exact does_move rfl e4 ⟨Same.refl _, rfl⟩
            refine allp_mild 0 rfl rfl rfl (fun a x W hout hin hP => ?_) ?_
            · have e26 := hin.is 8 26 (by kernel_rfl) (by decide) (by kernel_rfl) (by kernel_rfl) _ rfl
              clear hP
              clear hin hout
              intro K0 Q hK
              go_simp
              exact hK _ _ ⟨Same.alloc _ _, strs1 W t HM.out 9⟩
            refine allp_mild 0 rfl rfl rfl (fun a x W hout hin hP => ?_) ?_
            · obtain ⟨v27, e27, hv27⟩ := hin.get 9 27 (by kernel_rfl) (by decide) (by kernel_rfl) (.inr ⟨rfl, by kernel_rfl⟩)
              have C := (show goodNs [t] = false by unfold goodNs; simp [HG.out]) ▸ refgoodn_any [t] _ W hv27 (by unfold maxLen; simp)
              clear hP
              clear hin hout
              intro K0 Q hK
              go_simp
              refine C.mono ?_
              rintro e W' ⟨rfl, rfl⟩
              exact hK _ _ ⟨Same.refl _, rfl⟩
            refine allp_mild 0 rfl rfl rfl (fun a x W hout hin hP => ?_) ?_
            · have e28 := hin.is 10 28 (by kernel_rfl) (by decide) (by kernel_rfl) (by kernel_rfl) _ rfl
              exact does_not rfl e28 ⟨Same.refl _, rfl⟩
            refine allp_mild 0 rfl rfl rfl (fun a x W hout hin hP => ?_) ?_
            · have e25 := hin.is 7 25 (by kernel_rfl) (by decide) (by kernel_rfl) (by kernel_rfl) _ rfl
              have e29 := hin.is 11 29 (by kernel_rfl) (by decide) (by kernel_rfl) (by kernel_rfl) _ rfl
              exact does_pick rfl e25 ⟨Same.refl _, eval_of_get e29⟩
            refine allp_mild 0 rfl rfl rfl (fun a x W hout hin hP => ?_) ?_
            · have e22 := hin.is 4 22 (by kernel_rfl) (by decide) (by kernel_rfl) (by kernel_rfl) _ rfl
              have e30 := hin.is 12 30 (by kernel_rfl) (by decide) (by kernel_rfl) (by kernel_rfl) _ rfl
              exact does_pick rfl e22 ⟨Same.refl _, eval_of_get e30⟩
            exact all_end (by decide)
          · intro x W hP hV
            have h31 : x 13 = .bool true := hV 13 (by decide) (.inl (by kernel_rfl))
            have HS : St w noF [⟨g1, 50, bs b⟩, ⟨g2, 54, nmC [] false⟩] W := hP
            clear hV hP
            simp only [putL, Act.put, List.setIfInBounds_toArray, List.set_cons_succ, List.set_cons_zero, h31]
            refine wpAnyH_done (by kernel_rfl) ?_ _
            clear h31
            go_wp2_with (first | ((with_reducible refine wpList_plain ?_ ?_); exact rfl; intro KK hKK; refine wp_st_store HS 1 0 54 (.tmp 2) (.tmp 32) rfl rfl rfl (.agg (nmC [] false)) rfl (size_nm) (Nat.le_of_eq rfl) (one_nm _ _) (nmC [] false) (spl_agg _ _ _ rfl rfl) (fun W11 HSx => hKK _ _ ?_); clear hKK KK HS; have HS : St w noF [⟨g1, 50, bs b⟩, ⟨g2, 54, nmC [] false⟩] W11 := HSx; clear HSx))
            exact bodyPost_ret (v := .agg (nmC [] false)) (results_cell_row Tryd.results22 _ _ g2 54 (nmC [] false) (0, 0) _ rfl (HS.row 1 rfl) Tryd.underlying54 rfl size_nm) rfl ⟨by rw [HE.out], HS.below⟩
end Go.Proofs.YtpmedgibnnonkaaDoor
