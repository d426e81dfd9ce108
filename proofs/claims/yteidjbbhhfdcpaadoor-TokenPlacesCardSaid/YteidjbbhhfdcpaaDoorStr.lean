/- Texts: a byte of one, a part of one, two joined, compared, turned into bytes, copied. No function of the program is named here. -/
import Derived.Test.YteidjbbhhfdcpaaDoorSl
import Derived.Test.YteidjbbhhfdcpaaDoorHalf
import Derived.Test.YteidjbbhhfdcpaaDoorCopyR
import Derived.Laws.BytesArg
import Derived.Laws.IdiomStrings
import Derived.Laws.Concat
import Derived.Laws.Strings3
import Derived.Shelf.Bytes.SlSmallAll
set_option maxRecDepth 4000
namespace Go.Proofs.YteidjbbhhfdcpaaDoor
open Go Go.RowKit
def strB (q : List (BitVec 8)) : ByteArray := strOfNums (q.map bd)
theorem strB_size (q : List (BitVec 8)) : (strB q).size = q.length := by unfold strB; rw [strOfNums_size, List.length_map]
theorem ofNat_bd (x : BitVec 8) : UInt8.ofNat (bd x).toNat = UInt8.ofBitVec x := by
  apply UInt8.toBitVec_inj.1
  apply BitVec.eq_of_toNat_eq
  simp [bd]
theorem strB_data (q : List (BitVec 8)) : (strB q).data = (q.map UInt8.ofBitVec).toArray := by
  apply Array.ext'
  rw [strB, strOfNums_data, List.map_map]
  have e : ((fun n : Int => UInt8.ofNat n.toNat) ∘ bd) = UInt8.ofBitVec := funext ofNat_bd
  rw [e]
theorem strB_eq (q : List (BitVec 8)) : strB q = ⟨(q.map UInt8.ofBitVec).toArray⟩ := by
  apply ByteArray.ext; rw [strB_data]
theorem ofb_inj : Function.Injective UInt8.ofBitVec := fun a b h => by simpa using congrArg UInt8.toBitVec h
theorem strB_inj {p q : List (BitVec 8)} (h : strB p = strB q) : p = q := by
  have h1 := congrArg (fun s : ByteArray => s.data.toList) h
  simp only [strB_data] at h1
  have h2 := congrArg (List.map UInt8.toBitVec) h1
  simpa [List.map_map, Function.comp_def] using h2
/- every text is some bytes' -/
theorem strB_all (s : ByteArray) : ∃ q, s = strB q := by
  refine ⟨s.data.toList.map UInt8.toBitVec, ?_⟩
  apply ByteArray.ext
  rw [strB_data, List.map_map]
  have e : UInt8.ofBitVec ∘ UInt8.toBitVec = id := by funext x; rfl
  rw [e, List.map_id]
theorem str_beq (p q : List (BitVec 8)) : ((strB p).toList == (strB q).toList) = decide (p = q) := by
  rw [ByteArray.toList_eq, ByteArray.toList_eq]
  by_cases h : p = q
  · subst h; rw [decide_eq_true rfl]; exact beq_self_eq_true _
  · rw [decide_eq_false h]
    refine beq_eq_false_iff_ne.2 fun e => h (strB_inj ?_)
    apply ByteArray.ext
    exact Array.toList_inj.1 e
theorem str_lit0 : (⟨#[]⟩ : ByteArray) = strB [] := by rw [strB_eq]; rfl
theorem str_beq0 (p : List (BitVec 8)) : ((strB p).toList == (⟨#[]⟩ : ByteArray).toList) = decide (p = []) := by rw [str_lit0]; exact str_beq p []
theorem str_emp (p : List (BitVec 8)) : (strB p).toList.isEmpty = decide (p = []) := by
  rw [ByteArray.toList_eq, strB_data]; cases p <;> simp
theorem str_nil (p : List (BitVec 8)) : ((strB p).toList = []) ↔ p = [] := by
  rw [← List.isEmpty_iff, str_emp, decide_eq_true_iff]
theorem str_get (q : List (BitVec 8)) (j : Nat) (h : j < (strB q).size) : (((strB q)[j]'h).toNat : Int) = bd (q.getD j 0#8) := by
  have hj : j < q.length := by rw [strB_size] at h; exact h
  have e : (strB q)[j]'h = UInt8.ofBitVec q[j] := by
    show (strB q).data[j] = _
    simp [strB_data]
  rw [e, List.getD_eq_getElem?_getD, List.getElem?_eq_getElem hj]
  rfl
theorem run_ix (w : World) (t : TypeId) (q : List (BitVec 8)) (k : IntKind) (j : Nat) (h : Tryd.prog.underlying t = some .string) (hj : j < q.length) :
    (Instr.index t (.string (strB q)) (.int k (j : Int))).run Tryd.prog w = .ok (.int .u8 (bd (q.getD j 0#8))) w := by
  rw [run_index_string w t (strB q) k j h, dif_pos ⟨by omega, by rw [strB_size]; omega⟩]
  congr 2
  exact str_get q j (by rw [strB_size]; exact hj)
theorem str_extract (q : List (BitVec 8)) (a b : Nat) : (strB q).extract a b = strB ((q.drop a).take (b - a)) := by
  rw [strB_eq, strB_eq, ByteArray.extract_mk, List.map_take, List.map_drop]
theorem str_append (p q : List (BitVec 8)) : strB p ++ strB q = strB (p ++ q) := by
  rw [strB_eq, strB_eq, strB_eq, ByteArray.mk_append_mk, List.map_append]
theorem run_add (w : World) (p q : List (BitVec 8)) (h : p.length + q.length ≤ 9223372036854775807) : (Op.stringOp .add (strB p) (strB q)).run Tryd.prog w = .ok (.string (strB (p ++ q))) w := by
  rw [run_string_add_sum w _ _ (by rw [strB_size, strB_size]; exact h), str_append]
/- string(b) -/
theorem conv_bytes {w : World} {v : Value} {q : List (BitVec 8)} (h : Slice w v q) (dst : TypeId) (hd : Tryd.prog.underlying dst = some .string) : (convert 29 dst v).run Tryd.prog w = .ok (.string (strB q)) w := by
  obtain ⟨A, c, rfl, _, h3⟩ := h
  by_cases hq : q = []
  · subst hq
    have := run_convert_bytes_zero (P := Tryd.prog) w 29 5 Tryd.underlying29 Tryd.underlying5 A c dst hd
    exact this
  · obtain ⟨b, o, rfl, _, h6⟩ := h3 hq
    refine run_convert_bytes_arg (P := Tryd.prog) w 29 5 Tryd.underlying29 Tryd.underlying5 b o q.length c (q.map bd) (by simp) (fun i hi => ?_) dst hd
    rw [h6 i q[i] (List.getElem?_eq_getElem hi)]
    simp [List.getD_eq_getElem?_getD, hi]
/- []byte(s): a new block -/
theorem conv_str (w : World) (q : List (BitVec 8)) (src : TypeId) (hs : Tryd.prog.underlying src = some .string) :
    ∃ cap W, (convert src 29 (.string (strB q))).run Tryd.prog w = .ok (.slice (some ⟨w.heap.size, 0, none⟩) q.length cap) W ∧ Below w.heap.size w W ∧ w.heap.size < W.heap.size ∧ ∀ (j : Nat), j < q.length → W.cell? ⟨w.heap.size, j, none⟩ = some (.int .u8 (bd (q.getD j 0#8))) := by
  have h := run_bytes_of_string (P := Tryd.prog) w src 29 5 (strB q) hs Tryd.underlying29 Tryd.underlying5
  rw [strB_size] at h
  refine ⟨_, _, h, (Below.refl w.heap.size w).drew.alloc (Nat.le_refl _) _, by simp, fun j hj => ?_⟩
  have hs : j < (strB q).data.size := by rw [strB_data]; simpa using hj
  have e : w.drew.heap.size = w.heap.size := rfl
  rw [← e, World.cell?_alloc_mark, bytesRow_at _ _ _ hs]
  have := str_get q j (by rw [strB_size]; exact hj)
  rw [← this]
  rfl
/- copy(b[:], s) -/
theorem str_cells (q : List (BitVec 8)) (n : Nat) : (((strB q).extract 0 n).data.map fun b => Value.int .u8 b.toNat) = bs (q.take n) := by
  rw [str_extract, strB_data, List.drop_zero, Nat.sub_zero]
  apply Array.ext'
  simp only [bs, List.map_toArray, List.map_map]
  rfl
theorem run_copy_str (w : World) (dT sT ty : TypeId) (g o dLen dCap : Nat) (q : List (BitVec 8)) (cur : Array Value) (t : TypeId)
    (hu : Tryd.prog.underlying dT = some (.slice 5)) (hg : w.heap[g]? = some (.cells cur t (0, 0))) (hfit : o + min q.length dLen ≤ cur.size) :
    (Builtin.copy_ #[dT, sT] ty #[.slice (some ⟨g, o, none⟩) dLen dCap, .string (strB q)]).run Tryd.prog w =
      .ok (goInt ((min q.length dLen : Nat) : Int)) (w.setRow g (spl cur.toList o (bytesV (q.take dLen))).toArray) := by
  have hl : (bytesV (q.take dLen)).length = min q.length dLen := by rw [len_bytesV, List.length_take, Nat.min_comm]
  have hst := run_storeCells_at Tryd.prog g o t (bytesV (q.take dLen)) 0 cur w hg (by rw [hl]; simpa using hfit) (one_bytesV _)
  have hm : (strB q).data.toList.map (fun b => Value.int .u8 (b.toNat : Int)) = bytesV q := by
    rw [strB_data]
    simp only [bytesV, List.map_map]
    rfl
  have ht : (bytesV q).take (q.length.min dLen) = bytesV (q.take dLen) := by
    show (bytesV q).take (min q.length dLen) = _
    unfold bytesV
    rw [← List.map_take]
    rcases Nat.le_total q.length dLen with h | h
    · rw [Nat.min_eq_left h, List.take_of_length_le (Nat.le_refl _), List.take_of_length_le h]
    · rw [Nat.min_eq_right h]
  obtain ⟨i, hq, hi⟩ : ∃ i, Tryd.prog.info? 5 = some i ∧ i.size = 1 := by
    have := size_u8
    cases h : Tryd.prog.info? 5 with
    | none => rw [h] at this; cases this
    | some i => exact ⟨i, rfl, by rw [h] at this; simpa using this⟩
  simp only [Nat.add_zero] at hst
  simp [Builtin.copy_, run_underlying hu, Builtin.lenOf, Builtin.firstCells, sizeOf, typeInfo, hq, strB_size, hm, ht, hst]
  unfold spl
  rw [List.append_assoc]
theorem wp_copy_str {w : World} {o : Oper} {a : Act} {K : Act → World → Prop} {Q : Exit → Act → World → Prop} (d s : Operand) (sT : TypeId)
    (ho : o.op = .call { callee := .builtin .copy, args := #[d, s], argTypes := #[29, sT] })
    (g off n m : Nat) (hd : a.eval d = .slice (some ⟨g, off, none⟩) n m) (q : List (BitVec 8)) (hs : a.eval s = .string (strB q)) (t : TypeId) (cur : Array Value) (hg : Row w g t cur) (hfit : off + min q.length n ≤ cur.size)
    (h : ∀ w', Row w' g t (spl cur.toList off (bytesV (q.take n))).toArray → w.grownBy w' (some g) → K (a.put o.dst (goInt ((min q.length n : Nat) : Int))) w') : o.wp Tryd.prog a w K Q := by
  have hrun := run_copy_str w 29 sT o.type g off n m q cur t Tryd.underlying29 hg hfit
  have := h _ (hg.setRow _) (grown_setRow w g (spl cur.toList off (bytesV (q.take n))).toArray)
  unfold Oper.wp
  simp [execOp, ho, resolve, invoke, builtin, hd, hs, hrun, Result.andThen]
  exact this
theorem wpList_copy_str {w : World} {ops : Array Oper} {rest : List Oper} {o : Oper} {a : Act} {Q : Exit → Act → World → Prop} (hgd : o.guard = none) (d s : Operand) (sT : TypeId)
    (ho : o.op = .call { callee := .builtin .copy, args := #[d, s], argTypes := #[29, sT] })
    (g off n m : Nat) (hd : a.eval d = .slice (some ⟨g, off, none⟩) n m) (q : List (BitVec 8)) (hs : a.eval s = .string (strB q)) (t : TypeId) (cur : Array Value) (hg : Row w g t cur) (hfit : off + min q.length n ≤ cur.size)
    (h : ∀ w', Row w' g t (spl cur.toList off (bytesV (q.take n))).toArray → w.grownBy w' (some g) → wpList Tryd.prog ops Q rest (a.put o.dst (goInt ((min q.length n : Nat) : Int))) w') : wpList Tryd.prog ops Q (o :: rest) a w :=
  wpList_plain hgd fun _ hK => wp_copy_str d s sT ho g off n m hd q hs t cur hg hfit fun w' h1 h2 => hK _ _ (h w' h1 h2)
/- a slice of texts -/
def Strs (w : World) (v : Value) (l : List (List (BitVec 8))) : Prop :=
  ∃ A c, v = .slice A l.length c ∧ l.length ≤ c ∧ (A = none → c = 0) ∧ (∀ q ∈ l, q.length ≤ maxLen) ∧ (l ≠ [] → ∃ b o, A = some ⟨b, o, none⟩ ∧ b < w.heap.size ∧ ∀ k q, l[k]? = some q → w.cell? ⟨b, o + k, none⟩ = some (.string (strB q)))
theorem Strs.below {w w' : World} {B : Nat} {v : Value} {l : List (List (BitVec 8))} (h : Strs w v l) (hb : Below B w w') (hB : w.heap.size ≤ B) : Strs w' v l := by
  obtain ⟨A, c, h1, h2, hn, hm, h3⟩ := h
  refine ⟨A, c, h1, h2, hn, hm, fun hne => ?_⟩
  obtain ⟨b, o, h4, h5, h6⟩ := h3 hne
  exact ⟨b, o, h4, Nat.lt_of_lt_of_le h5 hb.size, fun k q hx => (hb.cell (p := ⟨b, o + k, none⟩) (Nat.lt_of_lt_of_le h5 hB)).trans (h6 k q hx)⟩
theorem strs_at {w : World} {A : Option Addr} {n c : Nat} {l : List (List (BitVec 8))} (h : Strs w (.slice A n c) l) {k : Nat} {q : List (BitVec 8)} (hx : l[k]? = some q) :
    ∃ b o, A = some ⟨b, o, none⟩ ∧ b < w.heap.size ∧ w.cell? ⟨b, o + k, none⟩ = some (.string (strB q)) := by
  obtain ⟨A', c', e1, _, _, _, h4⟩ := h
  injection e1 with e1 _ _
  subst e1
  obtain ⟨b, o, e2, h5, h6⟩ := h4 (by intro e; rw [e] at hx; simp at hx)
  exact ⟨b, o, e2, h5, h6 k _ hx⟩
theorem strs1 (w : World) (q : List (BitVec 8)) (hm : q.length ≤ maxLen) (t : TypeId) : Strs (w.alloc (.cells #[.string (strB q)] t)) (.slice (some ⟨w.heap.size, 0, none⟩) 1 1) [q] := by
  have r := Row.fresh w t #[.string (strB q)]
  refine ⟨_, 1, rfl, by simp, (fun h => by cases h), by simpa using hm, fun _ => ⟨w.heap.size, 0, rfl, r.lt, fun k p hp => ?_⟩⟩
  match k, hp with
  | 0, hp => obtain rfl : q = p := by simpa using hp
             exact r.get rfl
theorem strs2 (w : World) (p q : List (BitVec 8)) (hp : p.length ≤ maxLen) (hq : q.length ≤ maxLen) (t : TypeId) : Strs (w.alloc (.cells #[.string (strB p), .string (strB q)] t)) (.slice (some ⟨w.heap.size, 0, none⟩) 2 2) [p, q] := by
  have r := Row.fresh w t #[.string (strB p), .string (strB q)]
  refine ⟨_, 2, rfl, by simp, (fun h => by cases h), by simp [hp, hq], fun _ => ⟨w.heap.size, 0, rfl, r.lt, fun k s hs => ?_⟩⟩
  match k, hs with
  | 0, hs => obtain rfl : p = s := by simpa using hs
             exact r.get rfl
  | 1, hs => obtain rfl : q = s := by simpa using hs
             exact r.get rfl
def strsV (l : List (List (BitVec 8))) : List Value := l.map fun q => Value.string (strB q)
theorem len_strsV (l : List (List (BitVec 8))) : (strsV l).length = l.length := by simp [strsV]
theorem info_str : (Tryd.prog.info? 9).map (fun i => (i.zero, i.size, i.bytes)) = some (some (.string ⟨#[]⟩), 1, 16) := by kernel_rfl
theorem own_strs {w : World} {base : Nat} {v : Value} {l : List (List (BitVec 8))} (h : w.ownsRow base 9 1 v l.length (strsV l)) (hm : ∀ q ∈ l, q.length ≤ maxLen) : Strs w v l := by
  rcases h.2 with ⟨rfl, h0⟩ | ⟨g, cap, cur, rfl, hg, hh, hc, _⟩
  · obtain rfl : l = [] := List.length_eq_zero_iff.1 h0
    exact ⟨none, 0, rfl, by simp, fun _ => rfl, hm, fun h => absurd rfl h⟩
  · refine ⟨_, cap, rfl, hc, (fun h => by cases h), hm, fun _ => ⟨g, 0, rfl, (h.lt g rfl).2, fun k q hk => ?_⟩⟩
    have hj : k < l.length := (List.getElem?_eq_some_iff.1 hk).1
    have := h.cellAt k (by omega)
    rw [Nat.zero_add, this]
    simp [strsV, hk]
theorem wpList_append_strs {w : World} {ops : Array Oper} {rest : List Oper} {o : Oper} {a : Act} {Q : Exit → Act → World → Prop} (hgd : o.guard = none) (s x : Operand)
    (ho : o.op = .call { callee := .builtin .append, args := #[s, x], argTypes := #[53, 53] }) (base : Nat)
    (v : Value) (p : List (List (BitVec 8))) (hs : a.eval s = v) (hown : w.ownsRow base 9 1 v p.length (strsV p))
    (u : Value) (l : List (List (BitVec 8))) (hx : a.eval x = u) (hl : Strs w u l) (hn : p.length + l.length ≤ 1000000) (hbase : base ≤ w.heap.size)
    (h : ∀ v' w', w'.ownsRow base 9 1 v' (p ++ l).length (strsV (p ++ l)) → Below base w w' → wpList Tryd.prog ops Q rest (a.put o.dst v') w') : wpList Tryd.prog ops Q (o :: rest) a w := by
  obtain ⟨i0, hi, hz0, hz1, hz2⟩ := info_parts info_str
  have hblk : ∀ g, v.ownBlock = some g → base ≤ g := fun g hg => (hown.lt g hg).1
  obtain ⟨A, c, rfl, hc, hA, _, h3⟩ := hl
  cases A with
  | none =>
    have hl0 : l = [] := by
      apply Decidable.byContradiction
      intro hne
      obtain ⟨_, _, h4, _⟩ := h3 hne
      cases h4
    subst hl0
    obtain rfl := hA rfl
    refine wpList_append_own_none hgd s x 53 ho base 9 i0 1 Tryd.underlying53 hi v p.length (strsV p) hs hown hx ?_
    exact h v w (by rw [List.append_nil]; exact hown) (Below.refl _ _)
  | some ad =>
    refine wpList_append_own w hgd s x 53 ho base 9 i0 (.string ⟨#[]⟩) 1 16 Tryd.underlying53 hi hz0 hz1 hz2 rfl (by omega) v p.length (strsV p) hs hown ad l.length c (strsV l) hx (by rw [len_strsV, Nat.mul_one]) ?_ (by intro u hu; simp only [strsV, List.mem_map] at hu; obtain ⟨q, _, rfl⟩ := hu; rfl) (by unfold maxLen; omega) (by omega) hbase ?_
    · intro j u hu
      have hne : l ≠ [] := by rintro rfl; simp [strsV] at hu
      obtain ⟨b, o, h4, _, h6⟩ := h3 hne
      have h4 := Option.some.inj h4
      subst h4
      rw [Addr.add_mid]
      simp only [strsV, List.getElem?_map, Option.map_eq_some_iff] at hu
      obtain ⟨y, hy, rfl⟩ := hu
      exact h6 j y hy
    · intro v' w' h1 h2 _
      exact h v' w' (by rw [List.length_append]; unfold strsV at h1 ⊢; rw [List.map_append]; exact h1) (below_of_grown h2 hblk hbase)
theorem own_strs0 (w : World) : (w.alloc (.cells #[] 9)).ownsRow w.heap.size 9 1 (.slice (some ⟨w.heap.size, 0, none⟩) 0 0) ([] : List (List (BitVec 8))).length (strsV []) :=
  ⟨rfl, .inr ⟨w.heap.size, 0, #[], rfl, Nat.le_refl _, heap_alloc_new w _, Nat.le_refl _, by unfold maxLen; simp, rfl, rfl⟩⟩
end Go.Proofs.YteidjbbhhfdcpaaDoor
