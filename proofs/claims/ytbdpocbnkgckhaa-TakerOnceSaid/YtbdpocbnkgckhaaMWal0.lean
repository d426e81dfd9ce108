/- Merged: WalSpec WalRefG WalPut WalRefP WalRefR WalRefN WalIf WalGd WalPure WalPure2 WalPure0 WalPrgG WalPrgW WalPrgP WalPrgR WalPrg PktPrg WalOpen. -/
import Derived.Deep.Cut
import Derived.Test.YtbdpocbnkgckhaaMLabel0
import Derived.Test.YtbdpocbnkgckhaaMSeal0
import Derived.Test.YtbdpocbnkgckhaaMDisk0
import Derived.Test.YtbdpocbnkgckhaaMGen0
/- An op's record and the log as plain data: which puts may be, the header's bytes, what Put makes of a disk, what Get tells of one. No program is named here. -/
set_option maxRecDepth 4000
namespace Go.Proofs.Ytbdpocbnkgckhaa
structure Rec where
  e : BitVec 32
  s : BitVec 32
  l : List (Int × List (BitVec 8))
deriving DecidableEq
def rec0 : Rec := ⟨0#32, 0#32, []⟩
def Rec.ats (r : Rec) : List Int := r.l.map (·.1)
def mayB (M : DiskM) (f : Int) : Bool := decide (0 ≤ f) && decide (f + 6 ≤ (M.s.length : Int))
def byteOf (i : Int) : BitVec 8 := BitVec.ofInt 8 i
def headOf (e s : BitVec 32) (l : List Int) : List (BitVec 8) := le e 4 ++ le s 4 ++ [byteOf (l.length : Int)] ++ l.map byteOf
def headB (e s : BitVec 32) (l : List Int) : List (BitVec 8) := sealedB 0x57#8 (headOf e s l)
def orElse (a : Int × DiskM) (k : DiskM → Int × DiskM) : Int × DiskM := if a.1 = 0 then k a.2 else a
def imgs (M : DiskM) (f : Int) : List (List (BitVec 8)) → Int × DiskM
  | [] => (0, M)
  | b :: l => orElse (M.wRes f b) fun M => imgs M (f + 1) l
def walPut (M : DiskM) (f : Int) (r : Rec) : Int × DiskM :=
  if mayB M f && goodB r.ats then orElse (imgs M (f + 1) (r.l.map (·.2))) fun M => orElse M.fRes fun M => orElse (M.wRes f (headB r.e r.s r.ats)) fun M => M.fRes else (1, M)
/- what a header's sector tells -/
def cnt (h : List (BitVec 8)) : Nat := ((bodyOf h).getD 8 0#8).toNat
def atsOf (h : List (BitVec 8)) : List Int := (List.range (cnt h)).map fun k => (((bodyOf h).getD (9 + k) 0#8).toNat : Int)
def isHead (h : List (BitVec 8)) : Bool := decOk h && (decide (markOf h = 0x57#8) && decide (cnt h ≤ 5)) && (decide (∀ i < 20 - cnt h, (bodyOf h).getD (9 + cnt h + i) 0#8 = 0#8) && goodB (atsOf h))
def recAt (M : DiskM) (f : Nat) : Rec := ⟨num ((bodyOf (M.now f)).take 4), num (((bodyOf (M.now f)).drop 4).take 4), (List.range (cnt (M.now f))).map fun k => ((((bodyOf (M.now f)).getD (9 + k) 0#8).toNat : Int), M.now (f + 1 + k))⟩
def walGet (M : DiskM) (f : Int) : Rec × Int :=
  if mayB M f then (if M.down then (rec0, 20) else if isHead (M.now f.toNat) then (recAt M f.toNat, 0) else (rec0, 11)) else (rec0, 1)
theorem fRes_l (M : DiskM) : M.fRes.2.l.length ≤ M.l.length := by
  unfold DiskM.fRes
  split
  · exact Nat.le_refl _
  · exact Nat.zero_le _
theorem length_headOf (e s : BitVec 32) (l : List Int) : (headOf e s l).length = 9 + l.length := by
  unfold headOf
  rw [List.length_append, List.length_append, List.length_append, length_le, length_le, List.length_map]; rfl
theorem enc_head {e s : BitVec 32} {l : List Int} (h : l.length ≤ 5) : encB 0x57#8 (headOf e s l) = headB e s l ∧ encE 0x57#8 (headOf e s l) = 0 := by
  have hb : encBad 0x57#8 (headOf e s l) = false := by unfold encBad; rw [length_headOf, decide_eq_false (show ¬ 29 < 9 + l.length by omega)]; rfl
  exact ⟨encB_good hb, encE_good hb⟩
theorem length_headB {e s : BitVec 32} {l : List Int} (h : l.length ≤ 5) : (headB e s l).length = 32 := length_sealedB (by rw [length_headOf]; omega)
end Go.Proofs.Ytbdpocbnkgckhaa

/- The document's: which puts may be an op's, and where a log may stand. -/
set_option maxRecDepth 4000
namespace Go.Proofs.Ytbdpocbnkgckhaa
open Go Go.RowKit
end Go.Proofs.Ytbdpocbnkgckhaa

/- The disk while a log is written: the document's disk beside a record and its puts. -/
set_option maxRecDepth 4000
namespace Go.Proofs.Ytbdpocbnkgckhaa
open Go Go.RowKit
theorem PutsAt.chg {w w' : World} {v : Value} {l : List (Int × List (BitVec 8))} {F : Nat → Prop} (h : PutsAt w v l) (c : Chg F w w') (hA : ∀ k, v.ownBlock = some k → ¬ F k) : PutsAt w' v l := by
  obtain ⟨A, n, rfl, h2, h3, h4⟩ := h
  refine ⟨A, n, rfl, h2, h3, fun hne => ?_⟩
  obtain ⟨b, o, rfl, h6, h7⟩ := h4 hne
  refine ⟨b, o, rfl, Nat.lt_of_lt_of_le h6 c.size, fun k x hx j u hu => ?_⟩
  have := h7 k x hx j u hu
  rw [← this]
  unfold World.cell?
  rw [c.block b h6 (hA b rfl)]
end Go.Proofs.Ytbdpocbnkgckhaa

/- The document's Put. -/
set_option maxRecDepth 4000
namespace Go.Proofs.Ytbdpocbnkgckhaa
open Go Go.RowKit
end Go.Proofs.Ytbdpocbnkgckhaa

/- The document's Get. -/
set_option maxRecDepth 4000
namespace Go.Proofs.Ytbdpocbnkgckhaa
open Go Go.RowKit
section
variable {base : Nat} {w W W' : World} {p : Value} {M : DiskM} {F : Nat → Prop} {g4 g7 : Nat} {R : List (BitVec 8)} {ee : Int}
end
theorem isHead_no {h : List (BitVec 8)} (k : decOk h = false) : isHead h = false := by unfold isHead; rw [k]; rfl
theorem isHead_many {h : List (BitVec 8)} (k : ¬ cnt h ≤ 5) : isHead h = false := by unfold isHead; rw [decide_eq_false k, Bool.and_false, Bool.and_false]; rfl
end Go.Proofs.Ytbdpocbnkgckhaa

/- The document's Put and Get of no disk. -/
set_option maxRecDepth 4000
namespace Go.Proofs.Ytbdpocbnkgckhaa
open Go Go.RowKit
end Go.Proofs.Ytbdpocbnkgckhaa

/- What the statements of wal need to know of the program's wal, over the program's disk. -/
set_option maxRecDepth 4000
namespace Go.Proofs.Ytbdpocbnkgckhaa
open Go Go.RowKit
def recW (r : Rec) (v : Value) : Array Value := #[.int .u32 (wd r.e), .int .u32 (wd r.s), v]
/- the answer: a record, its puts in new memory, and an error -/
def ToldP (w : World) (r : Rec) (err : Int) : Ending → World → Prop := fun e w' => ∃ A c, e = .returned (.tuple #[.agg (recW r (.slice A r.l.length c)), .int .i64 err]) ∧ PutsAt w' (.slice A r.l.length c) r.l ∧ Below w.heap.size w w' ∧ ∀ k, (Value.slice A r.l.length c).ownBlock = some k → w.heap.size ≤ k
structure WalOps (D : DiskOps) : Prop where
  good : ∀ (l : List (Int × List (BitVec 8))) (v : Value) (w : World), PutsAt w v l → l.length ≤ maxLen → Calls Try.prog 37 #[v] w fun e w' => e = .returned (.bool (goodB (l.map (·.1)))) ∧ Below w.heap.size w w'
  put : ∀ (base : Nat) (w : World) (p : Value) (M : DiskM) (F : Nat → Prop) (f : Int) (e0 s0 : BitVec 32) (A : Option Addr) (c : Nat) (l : List (Int × List (BitVec 8))), D.A base w p M F → (-9223372036854775808 ≤ f ∧ f < 9223372036854775808) → PutsAt w (.slice A l.length c) l → l.length ≤ maxLen →
    (l ≠ [] → ∀ k, (Value.slice A l.length c).ownBlock = some k → k < w.heap.size ∧ ¬ F k) → M.l.length + 10 ≤ few → base ≤ w.heap.size → Calls Try.prog 38 #[p, .int .i64 f, .agg (recW ⟨e0, s0, l⟩ (.slice A l.length c))] w (Acts D.A base w p F (walPut M f ⟨e0, s0, l⟩).2 (.int .i64 (walPut M f ⟨e0, s0, l⟩).1))
  putNil : ∀ (w : World) (f : Int) (e0 s0 : BitVec 32) (A : Option Addr) (c : Nat) (l : List (Int × List (BitVec 8))), (-9223372036854775808 ≤ f ∧ f < 9223372036854775808) → PutsAt w (.slice A l.length c) l → l.length ≤ maxLen → Calls Try.prog 38 #[nilPtr, .int .i64 f, .agg (recW ⟨e0, s0, l⟩ (.slice A l.length c))] w (Asks w (.int .i64 1))
  get : ∀ (base : Nat) (w : World) (p : Value) (M : DiskM) (F : Nat → Prop) (f : Int), D.A base w p M F → (-9223372036854775808 ≤ f ∧ f < 9223372036854775808) → M.l.length ≤ few → Calls Try.prog 30 #[p, .int .i64 f] w (ToldP w (walGet M f).1 (walGet M f).2)
  getNil : ∀ (w : World) (f : Int), (-9223372036854775808 ≤ f ∧ f < 9223372036854775808) → Calls Try.prog 30 #[nilPtr, .int .i64 f] w (ToldP w rec0 1)
end Go.Proofs.Ytbdpocbnkgckhaa

/- The program's wal: which puts may be. -/
set_option maxRecDepth 4000
namespace Go.Proofs.Ytbdpocbnkgckhaa
open Go Go.RowKit
theorem st_cut {w0 w : World} {F : Nat → Prop} {R S : List Blk} (h : St w0 F (R ++ S) w) : St w0 F R w := by
  have at_ : ∀ (k : Nat) (r : Blk), R[k]? = some r → (R ++ S)[k]? = some r := fun k r hk => by
    rw [List.getElem?_append_left (List.getElem?_eq_some_iff.1 hk).1]; exact hk
  exact ⟨h.chg, fun k r hk => h.rows k r (at_ k r hk), fun j k r s hne hj hk => h.apart j k r s hne (at_ j r hj) (at_ k s hk), fun k r hk => h.own k r (at_ k r hk)⟩
/- which blocks the first k have -/
def took (L : List Int) (k : Nat) : Array Value := ((List.range 12).map fun (i : Nat) => Value.bool (decide ((i : Int) ∈ L.take k))).toArray
theorem size_took (L : List Int) (k : Nat) : (took L k).size = 12 := by simp [took]
theorem took_at (L : List Int) (k d : Nat) (hd : d < 12) : (took L k)[d]? = some (.bool (decide ((d : Int) ∈ L.take k))) := by simp [took, hd]
theorem took_set (L : List Int) (k d : Nat) (hk : k < L.length) (hd : L.getD k 0 = (d : Int)) : (took L k).setIfInBounds d (.bool true) = took L (k + 1) := by
  apply Array.ext'
  unfold took
  simp only [List.setIfInBounds_toArray]
  apply List.ext_getElem (by simp)
  intro i h1 h2
  have hg : L[k] = (d : Int) := by rw [← hd, List.getD_eq_getElem?_getD, List.getElem?_eq_getElem hk]; rfl
  rw [List.getElem_set, List.getElem_map, List.getElem_range, List.getElem_map, List.getElem_range, List.take_succ_eq_append_getElem hk, hg]
  by_cases e : d = i
  · subst e; simp
  · rw [if_neg e]
    have : ¬ (i : Int) = (d : Int) := by omega
    simp [this]
theorem ok_took (L : List Int) (k d : Nat) (hk : k < L.length) (hd : L.getD k 0 = (d : Int)) (h12 : d < 12) : okAt L k ↔ decide ((d : Int) ∈ L.take k) = false := by
  unfold okAt
  rw [hd, decide_eq_false_iff_not, List.mem_take_iff_getElem]
  constructor
  · rintro ⟨_, _, h⟩ ⟨i, hi, e⟩
    exact h i (by omega) (by rw [List.getD_eq_getElem?_getD, List.getElem?_eq_getElem (by omega)]; exact e)
  · intro h
    refine ⟨by omega, by omega, fun i hi e => h ⟨i, by omega, ?_⟩⟩
    rw [List.getD_eq_getElem?_getD, List.getElem?_eq_getElem (by omega)] at e; exact e
theorem put_at_mem {w : World} {A : Option Addr} {n c : Nat} {l : List (Int × List (BitVec 8))} (h : PutsAt w (.slice A n c) l) (_ : l.length = n) {k : Nat} {D : Int} {q : List (BitVec 8)} (hx : l[k]? = some (D, q)) :
    ∃ b o, A = some ⟨b, o, none⟩ ∧ b < w.heap.size ∧ w.rangeAt b (o + k * 33) (pcell (D, q)) ∧ q.length = 32 ∧ -9223372036854775808 ≤ D ∧ D < 9223372036854775808 := by
  obtain ⟨A', c', e1, _, hb, h4⟩ := h
  injection e1 with e1 _ _
  subst e1
  obtain ⟨b, o, e2, h5, h6⟩ := h4 (by intro e; rw [e] at hx; simp at hx)
  have := hb _ (List.mem_of_getElem? hx)
  exact ⟨b, o, e2, h5, h6 k _ hx, this.1, this.2.1, this.2.2⟩
theorem one_pc (x : Int × List (BitVec 8)) : (pcell x).toArray.all (·.oneCell') = true := by
  rw [Array.all_eq_true_iff_forall_mem]; intro v hv; exact one_pcell0 v (by simpa using hv)
theorem size_pc {D : Int} {q : List (BitVec 8)} (h : q.length = 32) : (pcell (D, q)).toArray.size = 33 := by rw [List.size_toArray]; exact len_pcell h
theorem info_put33 : (Try.prog.info? 43).map (·.size) = some 33 := by kernel_rfl
theorem size_zput : zput0.size = 33 := by rfl
set_option maxHeartbeats 800000 in
theorem walgood_any (l : List (Int × List (BitVec 8))) (v : Value) (w : World) (hv : PutsAt w v l) (hl : l.length ≤ maxLen) :
    Calls Try.prog 37 #[v] w fun e w' => e = .returned (.bool (goodB (l.map (·.1)))) ∧ Below w.heap.size w w' := by
  obtain ⟨A, c, rfl⟩ : ∃ A c, v = .slice A l.length c := by obtain ⟨A, c, h, _⟩ := hv; exact ⟨A, c, h⟩
  obtain ⟨n, hn⟩ : ∃ n, l.length = n := ⟨_, rfl⟩
  obtain ⟨L, hL⟩ : ∃ L, l.map (·.1) = L := ⟨_, rfl⟩
  have HLL := Lib.hid hL
  have HLn : Hid (L.length = n) := Lib.hid (by rw [← hL, List.length_map, hn])
  have HN := Lib.hid hn
  have HG : Hid (goodB L = (decide (∀ k < n, okAt L k) && (decide (1 ≤ n) && decide (n ≤ 5)))) := Lib.hid (by unfold goodB; rw [HLn.out])
  obtain ⟨G, hG⟩ : ∃ G, goodB L = G := ⟨_, rfl⟩
  rw [hG] at HG
  rw [hL, hG]
  rw [hn] at hv hl ⊢
  have HV := Lib.hid hv
  unfold maxLen at hl
  clear hL hG hn hv
  by_cases h1 : 1 ≤ n
  case neg =>
    have hG : G = false := by rw [HG.out, decide_eq_false h1, Bool.false_and, Bool.and_false]
    have hq : decide ((n : Int) < 1) = true := decide_eq_true (by omega)
    clear HG
    go_enter Try.func37, Try.ntmps37
    go_wp2_with fail
    go_ret
    first | exact ⟨rfl, Below.refl _ _⟩ | (rw [hG]; exact ⟨rfl, Below.refl _ _⟩)
  by_cases h5 : n ≤ 5
  case neg =>
    have hG : G = false := by rw [HG.out, decide_eq_false h5, Bool.and_false, Bool.and_false]
    have hq : decide ((n : Int) < 1) = false := decide_eq_false (by omega)
    have hq5 : decide ((5 : Int) < (n : Int)) = true := decide_eq_true (by omega)
    clear HG
    go_enter Try.func37, Try.ntmps37
    go_wp2_with fail
    go_ret
    first | exact ⟨rfl, Below.refl _ _⟩ | (rw [hG]; exact ⟨rfl, Below.refl _ _⟩)
  have HNO : Hid (∀ k, k < n → ¬ okAt L k → G = false) := Lib.hid fun k hk h => by rw [HG.out, decide_eq_false (fun h' => h (h' k hk))]; rfl
  have HYES : Hid ((∀ k < n, okAt L k) → G = true) := Lib.hid fun h => by rw [HG.out, decide_eq_true h, decide_eq_true h1, decide_eq_true h5]; rfl
  have hq : decide ((n : Int) < 1) = false := decide_eq_false (by omega)
  have hq5 : decide ((5 : Int) < (n : Int)) = false := decide_eq_false (by omega)
  clear HG
  have HS := St.nil w noF
  go_enter Try.func37, Try.ntmps37
  go_upto_region 5 with (first | ((with_reducible refine wpList_plain ?_ ?_); exact rfl; intro KK hKK; refine wp_st_alloc HS 120 (took L 0) rfl (.agg (took L 0)) (by kernel_rfl) (rfl) (fun g3 W1 HSx => hKK _ _ ?_); clear hKK KK HS; have HS : St w noF [⟨g3, 120, took L 0⟩] W1 := HSx; clear HSx))
  clear hq hq5
  go_loopw [16] (fun i wr => ∃ k : Nat, k ≤ n ∧ i = .int .i64 k ∧ (∀ j < k, okAt L j) ∧ St w noF [⟨g3, 120, took L k⟩] wr) (fun i _ => n - (intOf i).toNat)
  case atStart => exact ⟨0, by omega, rfl, fun j hj => by omega, HS⟩
  case round =>
    clear HS
    obtain ⟨k, hk, rfl, hok, HS⟩ := hrel
    have HOK := Lib.hid hok
    clear hok
    by_cases hlt : k < n
    · obtain ⟨⟨D, q⟩, hx⟩ : ∃ x, l[k]? = some x := ⟨_, List.getElem?_eq_getElem (by rw [HN.out]; exact hlt)⟩
      have HX := Lib.hid hx
      have HDk : Hid (L.getD k 0 = D) := Lib.hid (by rw [← HLL.out, List.getD_eq_getElem?_getD, List.getElem?_map, hx]; rfl)
      obtain ⟨b, o, rfl, hbw, hr, hq, hlo, hhi⟩ := put_at_mem (HV.out.below HS.below (Nat.le_refl _)) HN.out hx
      have HRG := Lib.hid hr
      have HQ := Lib.hid hq
      have hk0 : (0 : Int) ≤ (k : Int) := by omega
      have hk1 : (k : Int) < (n : Int) := by omega
      clear hx hr hq
      go_upto_region 7 with (first | (refine wpList_load_mid rfl 43 _ rfl b (o + k * 33) rfl (pcell (D, q)) _ HRG.out Try.underlying43 rfl (by rw [len_pcell HQ.out]; exact info_put33) ?_) | ((with_reducible refine wpList_plain ?_ ?_); exact rfl; intro KK hKK; refine wp_st_alloc HS 43 (zput0) rfl (.agg (zput0)) (by kernel_rfl) (rfl) (fun g5 W4 HSx => hKK _ _ ?_); clear hKK KK HS; have HS : St w noF [⟨g3, 120, took L k⟩, ⟨g5, 43, zput0⟩] W4 := HSx; clear HSx) | ((with_reducible refine wpList_plain ?_ ?_); exact rfl; intro KK hKK; refine wp_st_store HS 1 0 43 (.tmp 5) (.tmp 19) rfl rfl rfl (.agg (pcell (D, q)).toArray) rfl (by exact (size_pc HQ.out).symm ▸ info_put33) (by rw [Nat.zero_add]; exact Nat.le_of_eq ((size_pc HQ.out).trans size_zput.symm)) (one_pc (D, q)) ((pcell (D, q)).toArray) (spl_agg _ _ _ rfl (size_zput.trans (size_pc HQ.out).symm)) (fun W5 HSx => hKK _ _ ?_); clear hKK KK HS; have HS : St w noF [⟨g3, 120, took L k⟩, ⟨g5, 43, (pcell (D, q)).toArray⟩] W5 := HSx; clear HSx))
      have c5 : W5.cell? ⟨g5, 0, none⟩ = some (.int .i64 D) := (HS.row 1 rfl).get rfl
      clear HRG
      by_cases h0 : 0 ≤ D
      case neg =>
        have hd3 : decide (D < 0) = true := decide_eq_true (by omega)
        have hG : G = false := HNO.out k hlt (fun h => by unfold okAt at h; rw [HDk.out] at h; exact h0 h.1)
        go_wp2_with fail
        go_ret
        first | exact ⟨rfl, HS.below⟩ | (rw [hG]; exact ⟨rfl, HS.below⟩)
      by_cases h12 : D < 12
      case neg =>
        have hd3 : decide (D < 0) = false := decide_eq_false (by omega)
        have hd4 : decide (12 ≤ D) = true := decide_eq_true (by omega)
        have hG : G = false := HNO.out k hlt (fun h => by unfold okAt at h; rw [HDk.out] at h; exact h12 h.2.1)
        go_wp2_with fail
        go_ret
        first | exact ⟨rfl, HS.below⟩ | (rw [hG]; exact ⟨rfl, HS.below⟩)
      obtain ⟨d, rfl⟩ := Int.eq_ofNat_of_zero_le h0
      have hd3 : decide ((d : Int) < 0) = false := decide_eq_false (by omega)
      have hd4 : decide ((12 : Int) ≤ (d : Int)) = false := decide_eq_false (by omega)
      have HD12 : Hid (d < 12) := Lib.hid (by omega)
      have HOT := Lib.hid (ok_took L k d (by rw [HLn.out]; exact hlt) HDk.out HD12.out)
      have c3 : W5.cell? ⟨g3, d, none⟩ = some (.bool (decide ((d : Int) ∈ L.take k))) := (HS.row 0 rfl).get (took_at L k d HD12.out)
      cases ht : decide ((d : Int) ∈ L.take k) with
      | true =>
        rw [ht] at c3
        have hG : G = false := HNO.out k hlt (fun h => by have := HOT.out.1 h; rw [ht] at this; cases this)
        clear ht
        go_wp2_with fail
        go_ret
        first | exact ⟨rfl, HS.below⟩ | (rw [hG]; exact ⟨rfl, HS.below⟩)
      | false =>
        rw [ht] at c3
        have HOKk : Hid (okAt L k) := Lib.hid (HOT.out.2 ht)
        have HTS := Lib.hid (took_set L k d (by rw [HLn.out]; exact hlt) HDk.out)
        clear ht
        go_wp2_with (first | ((with_reducible refine wpList_plain ?_ ?_); exact rfl; intro KK hKK; refine wp_st_put HS 0 d 4 (.tmp 36) (.const (.bool true)) rfl rfl rfl (.bool true) rfl (by kernel_rfl) rfl rfl (by rw [size_took]; exact HD12.out) (took L (k + 1)) (HTS.out) (fun W6 HSx => hKK _ _ ?_); clear hKK KK HS; have HS : St w noF [⟨g3, 120, took L (k + 1)⟩, ⟨g5, 43, (pcell ((d : Int), q)).toArray⟩] W6 := HSx; clear HSx))
        refine ⟨⟨k + 1, by omega, by go_num, fun j hj => ?_, st_cut (show St w noF ([⟨g3, 120, took L (k + 1)⟩] ++ [⟨g5, 43, (pcell ((d : Int), q)).toArray⟩]) W6 from HS)⟩, by simp [intOf] <;> omega⟩
        by_cases e : j = k
        · rw [e]; exact HOKk.out
        · exact HOK.out j (by omega)
    · obtain rfl : k = n := by omega
      have hG : G = true := HYES.out HOK.out
      go_wp2_with fail
      go_ret
      first | exact ⟨rfl, HS.below⟩ | (rw [hG]; exact ⟨rfl, HS.below⟩)
end Go.Proofs.Ytbdpocbnkgckhaa

/- What a Put makes of a disk, wherever it is cut, and what Get tells behind it. No program is named here. -/
set_option maxRecDepth 4000
namespace Go.Proofs.Ytbdpocbnkgckhaa
def imgsL (a : Nat) : List (List (BitVec 8)) → List (Nat × List (BitVec 8))
  | [] => []
  | b :: l => (a, b) :: imgsL (a + 1) l
def left (f : Int) (k : Nat) : Int := if f < 0 then f else f - k
theorem length_imgsL : ∀ (bl : List (List (BitVec 8))) (a : Nat), (imgsL a bl).length = bl.length
  | [], _ => rfl
  | _ :: l, a => by show (imgsL (a + 1) l).length + 1 = l.length + 1; rw [length_imgsL l]
theorem imgsL_mem : ∀ (bl : List (List (BitVec 8))) (a : Nat) (x : Nat × List (BitVec 8)), x ∈ imgsL a bl → a ≤ x.1 ∧ x.1 < a + bl.length
  | [], _, _, h => by cases h
  | b :: l, a, x, h => by
    rcases List.mem_cons.1 h with rfl | h
    · simp
    · have := imgsL_mem l (a + 1) x h
      simp only [List.length_cons]; omega
theorem wRes_go {M : DiskM} {i : Nat} {b : List (BitVec 8)} (hi : i < M.s.length) (hd : M.down = false) (hf : M.f ≠ 0) : M.wRes (i : Int) b = (0, ⟨M.s, M.l ++ [(i, b)], left M.f 1, false⟩) := by
  have h1 : M.has (i : Int) = true := by unfold DiskM.has; simp; omega
  have h2 : M.stuck = false := by unfold DiskM.stuck; rw [hd]; simpa using hf
  unfold DiskM.wRes
  rw [h1, h2, if_pos rfl, if_neg (by decide)]
  obtain ⟨s, l, f, d⟩ := M
  simp only at hd hf
  subst hd
  show ((0 : Int), (⟨s, l ++ [((i : Int).toNat, b)], (if 0 < f then f - 1 else f), false⟩ : DiskM)) = (0, ⟨s, l ++ [(i, b)], left f 1, false⟩)
  rw [Int.toNat_natCast, show left f 1 = (if 0 < f then f - 1 else f) from by unfold left; split <;> split <;> omega]
theorem wRes_stop {M : DiskM} {i : Nat} {b : List (BitVec 8)} (hi : i < M.s.length) (hf : M.f = 0) : M.wRes (i : Int) b = (20, ⟨M.s, M.l, M.f, true⟩) := by
  have h1 : M.has (i : Int) = true := by unfold DiskM.has; simp; omega
  have h2 : M.stuck = true := by unfold DiskM.stuck; rw [hf]; simp
  unfold DiskM.wRes
  rw [h1, h2]; rfl
theorem fRes_go {M : DiskM} (hd : M.down = false) (hf : M.f ≠ 0) : M.fRes = (0, ⟨DiskM.put M.s M.l, [], left M.f 1, false⟩) := by
  have h2 : M.stuck = false := by unfold DiskM.stuck; rw [hd]; simpa using hf
  unfold DiskM.fRes
  rw [h2, if_neg (by decide)]
  obtain ⟨s, l, f, d⟩ := M
  simp only at hd hf
  subst hd
  show ((0 : Int), (⟨DiskM.put s l, [], (if 0 < f then f - 1 else f), false⟩ : DiskM)) = (0, ⟨DiskM.put s l, [], left f 1, false⟩)
  rw [show left f 1 = (if 0 < f then f - 1 else f) from by unfold left; split <;> split <;> omega]
theorem fRes_stop {M : DiskM} (hf : M.f = 0) : M.fRes = (20, ⟨M.s, M.l, M.f, true⟩) := by
  have h2 : M.stuck = true := by unfold DiskM.stuck; rw [hf]; simp
  unfold DiskM.fRes
  rw [h2]; rfl
end Go.Proofs.Ytbdpocbnkgckhaa

/- A header's bytes told again; what Get tells of what Put wrote; what a crash leaves. No program is named here. -/
set_option maxRecDepth 4000
namespace Go.Proofs.Ytbdpocbnkgckhaa
theorem getD_app_right (a b : List (BitVec 8)) (n i : Nat) (h : a.length = n) : (a ++ b).getD (n + i) 0#8 = b.getD i 0#8 := by
  rw [List.getD_eq_getElem?_getD, List.getElem?_append_right (by omega), h, Nat.add_sub_cancel_left, List.getD_eq_getElem?_getD]
theorem getD_app_left (a b : List (BitVec 8)) (i : Nat) (h : i < a.length) : (a ++ b).getD i 0#8 = a.getD i 0#8 := by
  rw [List.getD_eq_getElem?_getD, List.getElem?_append_left h, List.getD_eq_getElem?_getD]
theorem head_body {e s : BitVec 32} {l : List Int} (h : l.length ≤ 5) : bodyOf (headB e s l) = headOf e s l ++ zer (20 - l.length) := by
  have hl := length_headOf e s l
  show ((headOf e s l ++ List.replicate (29 - (headOf e s l).length) 0#8) ++ crcTail _).take 29 = _
  rw [hl, show 29 - (9 + l.length) = 20 - l.length by omega]
  exact List.take_left' (by rw [List.length_append, hl, List.length_replicate]; omega)
theorem head8 (e s : BitVec 32) : (le e 4 ++ le s 4).length = 8 := by rw [List.length_append, length_le, length_le]
theorem head9 (e s : BitVec 32) (n : Int) : (le e 4 ++ le s 4 ++ [byteOf n]).length = 9 := by rw [List.length_append, head8]; rfl
theorem byteOf_nat (i : Int) (h0 : 0 ≤ i) (h1 : i < 256) : ((byteOf i).toNat : Int) = i := by
  unfold byteOf
  rw [BitVec.toNat_ofInt]
  omega
theorem head_is {e s : BitVec 32} {l : List Int} (hg : goodB l = true) : isHead (headB e s l) = true ∧ cnt (headB e s l) = l.length ∧ atsOf (headB e s l) = l ∧ num ((bodyOf (headB e s l)).take 4) = e ∧ num (((bodyOf (headB e s l)).drop 4).take 4) = s := by
  have hg' := hg
  unfold goodB at hg'
  simp only [Bool.and_eq_true, decide_eq_true_eq] at hg'
  obtain ⟨hok, h1, h5⟩ := hg'
  have hb := head_body (e := e) (s := s) h5
  have hx : headOf e s l = (le e 4 ++ le s 4 ++ [byteOf (l.length : Int)]) ++ l.map byteOf := rfl
  have hcnt : cnt (headB e s l) = l.length := by
    have e8 := getD_app_right (le e 4 ++ le s 4) [byteOf (l.length : Int)] 8 0 (head8 e s)
    rw [Nat.add_zero] at e8
    unfold cnt
    rw [hb, getD_app_left _ _ _ (by rw [length_headOf]; omega), hx, getD_app_left _ _ _ (by rw [head9]; decide), e8]
    show (byteOf (l.length : Int)).toNat = l.length
    have := byteOf_nat (l.length : Int) (by omega) (by omega)
    omega
  have hat : ∀ k, k < l.length → (bodyOf (headB e s l)).getD (9 + k) 0#8 = byteOf (l.getD k 0) := fun k hk => by
    rw [hb, getD_app_left _ _ _ (by rw [length_headOf]; omega), hx, getD_app_right _ _ 9 k (head9 e s _), List.getD_eq_getElem?_getD, List.getElem?_map, List.getElem?_eq_getElem hk, List.getD_eq_getElem?_getD, List.getElem?_eq_getElem hk]; rfl
  have hats : atsOf (headB e s l) = l := by
    unfold atsOf
    rw [hcnt]
    apply List.ext_getElem (by simp)
    intro k h2 h3
    rw [List.getElem_map, List.getElem_range, hat k h3]
    have := hok k h3
    unfold okAt at this
    rw [byteOf_nat _ this.1 (by omega), List.getD_eq_getElem?_getD, List.getElem?_eq_getElem h3]; rfl
  have hz : ∀ i, i < 20 - l.length → (bodyOf (headB e s l)).getD (9 + l.length + i) 0#8 = 0#8 := fun i hi => by
    rw [hb, show 9 + l.length + i = (9 + l.length) + i from rfl, getD_app_right _ _ (9 + l.length) i (length_headOf e s l), List.getD_eq_getElem?_getD]
    unfold zer
    rw [List.getElem?_replicate, if_pos hi]; rfl
  have ht : (bodyOf (headB e s l)).take 4 = le e 4 := by
    rw [hb, hx]
    simp only [List.append_assoc]
    exact List.take_left' (length_le e 4)
  have hd : ((bodyOf (headB e s l)).drop 4).take 4 = le s 4 := by
    rw [hb, hx]
    simp only [List.append_assoc]
    rw [List.drop_left' (length_le e 4)]
    exact List.take_left' (length_le s 4)
  refine ⟨?_, hcnt, hats, by rw [ht, num_le4], by rw [hd, num_le4]⟩
  have hdec : decOk (headB e s l) = true := decOk_sealedB (by decide) (by rw [length_headOf]; omega)
  have hmk : markOf (headB e s l) = 0x57#8 := rfl
  unfold isHead
  rw [hdec, hmk, hcnt, hats, hg, decide_eq_true hz, decide_eq_true h5]; rfl
theorem put_far : ∀ (x : List (Nat × List (BitVec 8))) (s : List (List (BitVec 8))) (i : Nat), (∀ y ∈ x, y.1 ≠ i) → (DiskM.put s x).getD i [] = s.getD i []
  | [], _, _, _ => rfl
  | y :: x, s, i, h => by
    show (DiskM.put (s.set y.1 y.2) x).getD i [] = _
    rw [put_far x _ i (fun z hz => h z (List.mem_cons_of_mem _ hz)), List.getD_eq_getElem?_getD, List.getElem?_set_ne (h y (List.mem_cons_self ..)), List.getD_eq_getElem?_getD]
theorem put_at : ∀ (bl : List (List (BitVec 8))) (a : Nat) (s : List (List (BitVec 8))) (k : Nat), a + bl.length ≤ s.length → k < bl.length → (DiskM.put s (imgsL a bl)).getD (a + k) [] = bl.getD k []
  | [], _, _, _, _, hk => by simp at hk
  | b :: bl, a, s, k, hs, hk => by
    simp only [List.length_cons] at hs hk
    show (DiskM.put (s.set a b) (imgsL (a + 1) bl)).getD (a + k) [] = _
    cases k with
    | zero =>
      rw [put_far _ _ _ (fun y hy => by have := imgsL_mem bl (a + 1) y hy; omega), List.getD_eq_getElem?_getD, Nat.add_zero, List.getElem?_set_self (by omega)]; rfl
    | succ k =>
      rw [show a + (k + 1) = a + 1 + k by omega, put_at bl (a + 1) (s.set a b) k (by rw [List.length_set]; omega) (by omega)]; rfl
end Go.Proofs.Ytbdpocbnkgckhaa

/- When a sector's bytes are a header's: the program's way to ask. No program is named here. -/
set_option maxRecDepth 4000
namespace Go.Proofs.Ytbdpocbnkgckhaa
theorem getD_take_drop (q : List (BitVec 8)) (o n k : Nat) (h : k < n) : ((q.drop o).take n).getD k 0#8 = q.getD (o + k) 0#8 := by
  rw [List.getD_eq_getElem?_getD, List.getElem?_take_of_lt h, List.getElem?_drop, List.getD_eq_getElem?_getD]
theorem head_eq {b : List (BitVec 8)} (hb : b.length = 32) (hd : decOk b = true) (hc : cnt b ≤ 5) :
    (goodB (atsOf b) && decide (headB (lv 0 (bodyOf b)) (lv 4 (bodyOf b)) (atsOf b) = b)) = isHead b := by
  cases hg : goodB (atsOf b) with
  | false => unfold isHead; rw [hg, Bool.and_false, Bool.and_false]; rfl
  | true =>
    rw [Bool.true_and]
    have hL : (bodyOf b).length = 29 := length_bodyOf hb
    obtain ⟨q, hq⟩ : ∃ q, bodyOf b = q := ⟨_, rfl⟩
    have hal : (atsOf b).length = cnt b := by unfold atsOf; rw [List.length_map, List.length_range]
    by_cases h : headB (lv 0 (bodyOf b)) (lv 4 (bodyOf b)) (atsOf b) = b
    · rw [decide_eq_true h, ← h]; exact (head_is (e := lv 0 (bodyOf b)) (s := lv 4 (bodyOf b)) hg).1.symm
    · rw [decide_eq_false h]
      cases hi : isHead b with
      | false => rfl
      | true =>
        exfalso
        apply h
        unfold isHead at hi
        simp only [Bool.and_eq_true, decide_eq_true_eq] at hi
        obtain ⟨⟨_, hm, _⟩, hz, _⟩ := hi
        have hk := hd
        unfold decOk at hk
        rw [Bool.and_eq_true] at hk
        have ht := of_decide_eq_true hk.2
        unfold headB
        conv => rhs; rw [← ht, hm]
        rw [sealedB_inj (by rw [length_headOf, hal]; omega) (by rw [hL]; decide), pad30_eq (by rw [length_headOf, hal]; omega) (by rw [hL]; decide)]
        intro i hi29
        have hx : headOf (lv 0 (bodyOf b)) (lv 4 (bodyOf b)) (atsOf b) = (le (lv 0 (bodyOf b)) 4 ++ le (lv 4 (bodyOf b)) 4 ++ [byteOf ((atsOf b).length : Int)]) ++ (atsOf b).map byteOf := rfl
        rw [hq] at hL hx hz ⊢
        by_cases h4 : i < 4
        · rw [hx, getD_app_left _ _ _ (by rw [head9]; omega), getD_app_left _ _ _ (by rw [head8]; omega), getD_app_left _ _ _ (by rw [length_le]; omega), le_lv q 0 (by omega), getD_take_drop q 0 4 i h4, Nat.zero_add]
        · by_cases h8 : i < 8
          · obtain ⟨k, rfl⟩ : ∃ k, i = 4 + k := ⟨i - 4, by omega⟩
            rw [hx, getD_app_left _ _ _ (by rw [head9]; omega), getD_app_left _ _ _ (by rw [head8]; omega), getD_app_right _ _ 4 k (length_le _ 4), le_lv q 4 (by omega), getD_take_drop q 4 4 k (by omega)]
          · by_cases h9 : i = 8
            · subst h9
              have e8 := getD_app_right (le (lv 0 q) 4 ++ le (lv 4 q) 4) [byteOf ((atsOf b).length : Int)] 8 0 (head8 _ _)
              rw [Nat.add_zero] at e8
              rw [hx, getD_app_left _ _ _ (by rw [head9]; decide), e8, hal]
              show byteOf (cnt b : Int) = _
              apply BitVec.eq_of_toNat_eq
              have h1 := byteOf_nat (cnt b : Int) (by omega) (by omega)
              have h2 : cnt b = (q.getD 8 0#8).toNat := by unfold cnt; rw [hq]
              omega
            · obtain ⟨k, rfl⟩ : ∃ k, i = 9 + k := ⟨i - 9, by omega⟩
              rw [hx, getD_app_right _ _ 9 k (head9 _ _ _)]
              by_cases hkc : k < cnt b
              · rw [List.getD_eq_getElem?_getD, List.getElem?_map, List.getElem?_eq_getElem (by rw [hal]; exact hkc)]
                show byteOf (atsOf b)[k] = _
                have e : (atsOf b)[k]'(by rw [hal]; exact hkc) = ((q.getD (9 + k) 0#8).toNat : Int) := by
                  unfold atsOf
                  rw [List.getElem_map, List.getElem_range, hq]
                rw [e]
                apply BitVec.eq_of_toNat_eq
                have := byteOf_nat ((q.getD (9 + k) 0#8).toNat : Int) (by omega) (by have := (q.getD (9 + k) 0#8).isLt; omega)
                omega
              · rw [List.getD_eq_getElem?_getD, List.getElem?_eq_none (by rw [List.length_map, hal]; omega)]
                obtain ⟨j, rfl⟩ : ∃ j, k = cnt b + j := ⟨k - cnt b, by omega⟩
                have := hz j (by omega)
                rw [show 9 + (cnt b + j) = 9 + cnt b + j by omega, this]; rfl
end Go.Proofs.Ytbdpocbnkgckhaa

/- The program's wal: which puts may be, whether there is a log, where an image stands. -/
set_option maxRecDepth 4000
namespace Go.Proofs.Ytbdpocbnkgckhaa
open Go Go.RowKit
set_option maxHeartbeats 400000 in
theorem haslog_any (w : World) (D : DiskOps) (base : Nat) (p : Value) (M : DiskM) (F : Nat → Prop) (h : D.A base w p M F) (f : Int) (hf : -9223372036854775808 ≤ f ∧ f < 9223372036854775808) :
    Calls Try.prog 48 #[p, .int .i64 f] w (Asks w (.bool (mayB M f))) := by
  have C := D.len base w p M F h
  have hk := (D.ok h).hi
  obtain ⟨n, hn⟩ : ∃ n, M.s.length = n := ⟨_, rfl⟩
  have HM : Hid (mayB M f = (decide (0 ≤ f) && decide (f + 6 ≤ (n : Int)))) := Lib.hid (by unfold mayB; rw [hn])
  rw [hn] at C hk
  clear hn h
  by_cases h0 : 0 ≤ f
  · have hq0 : decide (0 ≤ f) = true := decide_eq_true h0
    skip
    go_enter Try.func48, Try.ntmps48
    go_wp2_with fail
    refine C.mono ?_
    rintro e w1 ⟨rfl, hb⟩
    clear C
    go_wp2_with fail
    go_ret
    exact ⟨by rw [HM.out, decide_eq_true h0, Bool.true_and]; exact congrArg (fun b => Ending.returned (Value.bool b)) (decide_eq_decide.2 (by omega)), hb⟩
  · have hq0 : decide (0 ≤ f) = false := decide_eq_false h0
    clear C
    go_enter Try.func48, Try.ntmps48
    go_wp2_with fail
    go_ret
    exact ⟨by rw [HM.out, decide_eq_false (by omega)]; rfl, Below.refl _ _⟩
set_option maxHeartbeats 400000 in
theorem haslog_nil (w : World) (D : DiskOps) (f : Int) (hf : -9223372036854775808 ≤ f ∧ f < 9223372036854775808) :
    Calls Try.prog 48 #[nilPtr, .int .i64 f] w (Asks w (.bool false)) := by
  have C := D.lenNil w
  skip
  by_cases h0 : 0 ≤ f
  · have hq0 : decide (0 ≤ f) = true := decide_eq_true h0
    have hq1 : decide (f < -5) = false := decide_eq_false (by omega)
    go_enter Try.func48, Try.ntmps48
    go_wp2_with fail
    refine C.mono ?_
    rintro e w1 ⟨rfl, hb⟩
    clear C
    go_wp2_with fail
    go_ret
    exact ⟨by first | rfl | simp; omega, hb⟩
  · have hq0 : decide (0 ≤ f) = false := decide_eq_false h0
    clear C
    go_enter Try.func48, Try.ntmps48
    go_wp2_with fail
    go_ret
    exact ⟨by rfl, Below.refl _ _⟩
set_option maxHeartbeats 400000 in
theorem image_any (f k : Int) (w : World) (h0 : 0 ≤ f) (h1 : f ≤ 2000) (h2 : 0 ≤ k) (h3 : k ≤ 2000) : Calls Try.prog 50 #[.int .i64 f, .int .i64 k] w fun e w' => e = .returned (.int .i64 (f + 1 + k)) ∧ w = w' := by
  go_enter Try.func50, Try.ntmps50
  go_wp2_with fail
  go_ret
  exact ⟨rfl, rfl⟩
end Go.Proofs.Ytbdpocbnkgckhaa

/- The program's wal: a record's header, its images written, Put. -/
set_option maxRecDepth 4000
namespace Go.Proofs.Ytbdpocbnkgckhaa
open Go Go.RowKit
theorem info_rec : (Try.prog.info? 67).map (·.size) = some 3 := by kernel_rfl
theorem size_b32 {b : List (BitVec 8)} (h : b.length = 32) : (Try.prog.info? 37).map (·.size) = some (bs b).size := by rw [size_bs, h]; exact size_blk
theorem same_b32 {b : List (BitVec 8)} (h : b.length = 32) : (bs (blk 0#8)).size = (bs b).size := by rw [size_bs, size_bs, h, length_blk]
set_option maxRecDepth 20000 in
set_option maxHeartbeats 1200000 in
theorem header_any (e0 s0 : BitVec 32) (A : Option Addr) (c : Nat) (l : List (Int × List (BitVec 8))) (w : World) (hv : PutsAt w (.slice A l.length c) l) (h5 : l.length ≤ 5) :
    Calls Try.prog 62 #[.agg (recW ⟨e0, s0, l⟩ (.slice A l.length c))] w fun e w' => e = .returned (.agg (bs (headB e0 s0 (l.map (·.1))))) ∧ Below w.heap.size w w' := by
  obtain ⟨n, hn⟩ : ∃ n, l.length = n := ⟨_, rfl⟩
  have HN := Lib.hid hn
  obtain ⟨hx1, hx2⟩ := enc_head (e := e0) (s := s0) (l := l.map (·.1)) (by rw [List.length_map]; exact h5)
  have hx3 := length_headOf e0 s0 (l.map (·.1))
  have hx4 := length_headB (e := e0) (s := s0) (l := l.map (·.1)) (by rw [List.length_map]; exact h5)
  have hYd : headOf e0 s0 (l.map (·.1)) = four e0 ++ four s0 ++ [byteOf (n : Int)] ++ (l.map (·.1)).map byteOf := by unfold headOf; rw [four_le, four_le, List.length_map, hn]
  obtain ⟨H, hH⟩ : ∃ H, headB e0 s0 (l.map (·.1)) = H := ⟨_, rfl⟩
  obtain ⟨Y, hY⟩ : ∃ Y, headOf e0 s0 (l.map (·.1)) = Y := ⟨_, rfl⟩
  rw [hH] at hx1 hx4 ⊢
  rw [hY] at hx1 hx2 hx3 hYd
  rw [List.length_map, hn] at hx3
  have HY : Hid (Y.length = 9 + n) := Lib.hid hx3
  have HYD := Lib.hid hYd
  have HH : Hid (H.length = 32) := Lib.hid hx4
  have HEN : Hid (∀ (v : Value) (W : World), Item W v Y → Calls Try.prog 46 #[.int .u8 87, v] W fun e w' => e = .returned (.tuple #[.agg (bs H), .int .i64 0]) ∧ Below W.heap.size W w') := Lib.hid (fun v W hi => by
    have := sealOps.enc 0x57#8 Y v W hi
    rw [hx1, hx2] at this
    exact this)
  rw [hn] at hv h5 ⊢
  have HV := Lib.hid hv
  have hz := zeros_blk
  have HS := St.nil w noF
  clear hx1 hx2 hx3 hx4 hYd hH hY hn hv
  go_enter Try.func62, Try.ntmps62
  go_upto_region 2 with (first | ((with_reducible refine wpList_plain ?_ ?_); exact rfl; intro KK hKK; refine wp_st_box HS 67 (.tmp 0) rfl _ rfl (recW ⟨e0, s0, l⟩ (.slice A n c)) (rfl) (fun g1 W1 HSx => hKK _ _ ?_); clear hKK KK HS; have HS : St w noF [⟨g1, 67, recW ⟨e0, s0, l⟩ (.slice A n c)⟩] W1 := HSx; clear HSx) | ((with_reducible refine wpList_plain ?_ ?_); exact rfl; intro KK hKK; refine wp_st_alloc HS 37 (bs (blk 0#8)) rfl (.agg (bs (blk 0#8))) (by kernel_rfl) (rfl) (fun g2 W2 HSx => hKK _ _ ?_); clear hKK KK HS; have HS : St w noF [⟨g1, 67, recW ⟨e0, s0, l⟩ (.slice A n c)⟩, ⟨g2, 37, bs (blk 0#8)⟩] W2 := HSx; clear HSx))
  clear hz
  obtain ⟨B0, hB0⟩ : ∃ B0, W2.heap.size = B0 := ⟨_, rfl⟩
  have HB0 := Lib.hid hB0
  have HVW : Hid (PutsAt W2 (.slice A n c) l) := Lib.hid (HV.out.below HS.below (Nat.le_refl _))
  have c0 : W2.cell? ⟨g1, 0, none⟩ = some (.int .u32 (wd e0)) := (HS.row 0 rfl).get rfl
  have C1 := applong_any B0 [] e0 (.slice none 0 0) W2 (World.ownsRow_nil _ _ _ _) (Nat.le_of_eq hB0.symm) (by decide)
  have HSW := Lib.hid HS
  clear HS hB0
  go_wp2_with fail
  refine C1.mono ?_
  rintro e w1 ⟨v1, rfl, h1, b1⟩
  clear C1 c0
  have HS1 := HSW.out.same (by rw [HB0.out]; exact b1)
  have c1 : w1.cell? ⟨g1, 1, none⟩ = some (.int .u32 (wd s0)) := (HS1.row 0 rfl).get rfl
  have C2 := applong_any B0 (four e0) s0 v1 w1 h1 (by rw [← HB0.out]; exact b1.size) (by simp [four, two])
  have BB1 := Lib.hid b1
  clear h1 HS1 b1
  go_wp2_with fail
  refine C2.mono ?_
  rintro e w2 ⟨v2, rfl, h2, b2⟩
  clear C2 c1
  have BB2 := Lib.hid (BB1.out.trans b2)
  clear b2 BB1
  have HS2 := HSW.out.same (by rw [HB0.out]; exact BB2.out)
  have c2 : w2.cell? ⟨g1, 2, none⟩ = some (.slice A n c) := (HS2.row 0 rfl).get rfl
  have HBZ : Hid (B0 ≤ w2.heap.size) := Lib.hid (by rw [← HB0.out]; exact BB2.out.size)
  have HR4 : Hid (Slice (w2.alloc (.cells #[.int .u8 (bd (byteOf (n : Int)))] 5)) (.slice (some ⟨w2.heap.size, 0, none⟩) 1 1) [byteOf (n : Int)]) := Lib.hid (row_slice (Row.fresh w2 5 (bs [byteOf (n : Int)])) (c := 1) (Nat.le_refl _))
  have HO4 := Lib.hid ((h2).alloc (.cells #[.int .u8 (bd (byteOf (n : Int)))] 5))
  have HB4 : Hid (B0 ≤ (w2.alloc (.cells #[.int .u8 (bd (byteOf (n : Int)))] 5)).heap.size) := Lib.hid (Nat.le_trans (HBZ.out) (Same.alloc w2 _).size)
  have hcv : IntKind.u8.wrap (n : Int) = bd (byteOf (n : Int)) := wrap_u8_bd _
  clear h2 HS2
  go_upto_region 5 with (at_builtin; refine wpList_append_slice rfl (.tmp 16) (.tmp 21) rfl B0 _ 8 _ rfl HO4.out (some ⟨w2.heap.size, 0, none⟩) 1 1 _ rfl HR4.out (fun h => by cases h) (by omega) HB4.out ?_; intro v6 w6 own6 hb6; rw [← bytesV_apps] at own6; have HO6 := Lib.hid own6; have HB6 := Lib.hid hb6; clear own6 hb6)
  have BB6 : Hid (Below B0 W2 w6) := Lib.hid (BB2.out.trans (((Same.alloc w2 (.cells #[.int .u8 (bd (byteOf (n : Int)))] 5)).mono HBZ.out).trans HB6.out))
  have c2 : w6.cell? ⟨g1, 2, none⟩ = some (.slice A n c) := ((HSW.out.same (by rw [HB0.out]; exact BB6.out)).row 0 rfl).get rfl
  obtain ⟨H9, hH9⟩ : ∃ H9, four e0 ++ four s0 ++ [byteOf (n : Int)] = H9 := ⟨_, rfl⟩
  rw [hH9] at HO6 HYD
  clear hH9 HB6 HB4 HO4 HR4 hcv BB2 HBZ
  go_upto_region 6 with fail
  clear c2
  go_loopw [3, 26] (fun bv i wr => ∃ k : Nat, k ≤ n ∧ i = .int .i64 k ∧ wr.ownsRow B0 5 1 bv (9 + k) (bytesV (H9 ++ ((l.map (·.1)).take k).map byteOf)) ∧ Below B0 W2 wr) (fun _ i _ => n - (intOf i).toNat)
  case atStart => exact ⟨0, by omega, rfl, by simpa using HO6.out, BB6.out⟩
  case round =>
    obtain ⟨k, hk, rfl, hO, hB⟩ := hrel
    have HB := Lib.hid hB
    have HO := Lib.hid hO
    have HBS : Hid (B0 ≤ wr.heap.size) := Lib.hid (by rw [← HB0.out]; exact hB.size)
    clear hO hB
    by_cases hlt : k < n
    · obtain ⟨⟨D, q⟩, hx⟩ : ∃ x, l[k]? = some x := ⟨_, List.getElem?_eq_getElem (by rw [HN.out]; exact hlt)⟩
      have HX := Lib.hid hx
      obtain ⟨b, o, rfl, hbw, hr, hq, hlo, hhi⟩ := put_at_mem (HVW.out.below HB.out (by rw [HB0.out]; exact Nat.le_refl _)) HN.out hx
      have HRG := Lib.hid hr
      have HQ := Lib.hid hq
      have hk0 : (0 : Int) ≤ (k : Int) := by omega
      have hk1 : (k : Int) < (n : Int) := by omega
      have HSr := St.nil wr noF
      clear hx hr hq HO6 BB6
      go_upto_region 8 with (first | (refine wpList_load_mid rfl 43 _ rfl b (o + k * 33) rfl (pcell (D, q)) _ HRG.out Try.underlying43 rfl (by rw [len_pcell HQ.out]; exact info_put33) ?_) | ((with_reducible refine wpList_plain ?_ ?_); exact rfl; intro KK hKK; refine wp_st_alloc HSr 43 (zput0) rfl (.agg (zput0)) (by kernel_rfl) (rfl) (fun g5 W11 HSx => hKK _ _ ?_); clear hKK KK HSr; have HSr : St wr noF [⟨g5, 43, zput0⟩] W11 := HSx; clear HSx) | ((with_reducible refine wpList_plain ?_ ?_); exact rfl; intro KK hKK; refine wp_st_store HSr 0 0 43 (.tmp 5) (.tmp 29) rfl rfl rfl (.agg (pcell (D, q)).toArray) rfl (by exact (size_pc HQ.out).symm ▸ info_put33) (by rw [Nat.zero_add]; exact Nat.le_of_eq ((size_pc HQ.out).trans size_zput.symm)) (one_pc (D, q)) ((pcell (D, q)).toArray) (spl_agg _ _ _ rfl (size_zput.trans (size_pc HQ.out).symm)) (fun W12 HSx => hKK _ _ ?_); clear hKK KK HSr; have HSr : St wr noF [⟨g5, 43, (pcell (D, q)).toArray⟩] W12 := HSx; clear HSx))
      have c5 : W12.cell? ⟨g5, 0, none⟩ = some (.int .i64 D) := (HSr.row 0 rfl).get rfl
      have HO5 := Lib.hid (owns_call HO.out HSr.below)
      have HB5 := Lib.hid (HB.out.trans (HSr.below.mono HBS.out))
      have HBZ : Hid (B0 ≤ W12.heap.size) := Lib.hid (Nat.le_trans HBS.out HSr.below.size)
      have HR4 : Hid (Slice (W12.alloc (.cells #[.int .u8 (bd (byteOf D))] 5)) (.slice (some ⟨W12.heap.size, 0, none⟩) 1 1) [byteOf D]) := Lib.hid (row_slice (Row.fresh W12 5 (bs [byteOf D])) (c := 1) (Nat.le_refl _))
      have HO4 := Lib.hid ((HO5.out).alloc (.cells #[.int .u8 (bd (byteOf D))] 5))
      have HB4 : Hid (B0 ≤ (W12.alloc (.cells #[.int .u8 (bd (byteOf D))] 5)).heap.size) := Lib.hid (Nat.le_trans (HBZ.out) (Same.alloc W12 _).size)
      have hcv : IntKind.u8.wrap D = bd (byteOf D) := wrap_u8_bd _
      clear HRG HO HB HBS HSr HO5
      go_wp2_with (at_builtin; refine wpList_append_slice rfl (.tmp 30) (.tmp 34) rfl B0 _ (9 + k) _ rfl HO4.out (some ⟨W12.heap.size, 0, none⟩) 1 1 _ rfl HR4.out (fun h => by cases h) (by omega) HB4.out ?_; intro v6 w6 own6 hb6; rw [← bytesV_apps] at own6; have HO6 := Lib.hid own6; have HB6 := Lib.hid hb6; clear own6 hb6)
      refine ⟨⟨k + 1, by omega, by go_num, ?_, HB5.out.trans (((Same.alloc W12 (.cells #[.int .u8 (bd (byteOf D))] 5)).mono HBZ.out).trans HB6.out)⟩, by simp [intOf] <;> omega⟩
      have e9 : (l.map (·.1)).take (k + 1) = (l.map (·.1)).take k ++ [D] := by
        rw [List.take_succ_eq_append_getElem (by rw [List.length_map]; exact (List.getElem?_eq_some_iff.1 HX.out).1)]
        congr 2
        have := HX.out
        rw [List.getElem?_eq_some_iff] at this
        obtain ⟨_, h⟩ := this
        rw [List.getElem_map, h]
      rw [e9, List.map_append, List.map_singleton, ← List.append_assoc]
      exact HO6.out
    · obtain rfl : k = n := by omega
      have htake : (l.map (·.1)).take k = l.map (·.1) := List.take_of_length_le (by rw [List.length_map]; exact Nat.le_of_eq HN.out)
      have HS := HSW.out.same (by rw [HB0.out]; exact HB.out)
      rw [htake, ← HYD.out] at HO
      have hI : Item wr _ Y := own_item (by rw [HY.out]; exact HO.out) (by rw [HY.out]; simp only [maxLen]; omega)
      have C := HEN.out _ wr hI
      have hz := zeros_blk
      have hq : decide ((k : Int) < (k : Int)) = false := decide_eq_false (by omega)
      clear htake hI HEN HO HB HBS HSW HO6 BB6 HVW HV hlt
      go_wp2_with fail
      refine C.mono ?_
      rintro e w9 ⟨rfl, hb9⟩
      have HSx := HS.same hb9
      clear HS hb9 C
      have HS := HSx
      clear HSx
      go_wp2_with (first | ((with_reducible refine wpList_plain ?_ ?_); exact rfl; intro KK hKK; refine wp_st_alloc HS 37 (bs (blk 0#8)) rfl (.agg (bs (blk 0#8))) (by kernel_rfl) (rfl) (fun g6 W21 HSx => hKK _ _ ?_); clear hKK KK HS; have HS : St w noF [⟨g1, 67, recW ⟨e0, s0, l⟩ (.slice A k c)⟩, ⟨g2, 37, bs (blk 0#8)⟩, ⟨g6, 37, bs (blk 0#8)⟩] W21 := HSx; clear HSx) | ((with_reducible refine wpList_plain ?_ ?_); exact rfl; intro KK hKK; refine wp_st_store HS 2 0 37 (.tmp 6) (.tmp 40) rfl rfl rfl (.agg (bs H)) rfl (by exact size_b32 HH.out) (by rw [Nat.zero_add]; exact Nat.le_of_eq (Eq.symm (same_b32 HH.out))) (by first | exact one_bs _ | exact one_pc _) (bs H) (spl_agg _ _ _ rfl (same_b32 HH.out)) (fun W22 HSx => hKK _ _ ?_); clear hKK KK HS; have HS : St w noF [⟨g1, 67, recW ⟨e0, s0, l⟩ (.slice A k c)⟩, ⟨g2, 37, bs (blk 0#8)⟩, ⟨g6, 37, bs H⟩] W22 := HSx; clear HSx) | ((with_reducible refine wpList_plain ?_ ?_); exact rfl; intro KK hKK; refine wp_st_load HS 2 0 37 (.tmp 6) rfl rfl rfl (bs H) (slab_whole _) _ Try.underlying37 rfl (size_b32 HH.out) (hKK _ _ ?_); clear hKK KK) | ((with_reducible refine wpList_plain ?_ ?_); exact rfl; intro KK hKK; refine wp_st_store HS 1 0 37 (.tmp 2) (.tmp 42) rfl rfl rfl (.agg (bs H)) rfl (by exact size_b32 HH.out) (by rw [Nat.zero_add]; exact Nat.le_of_eq (Eq.symm (same_b32 HH.out))) (by first | exact one_bs _ | exact one_pc _) (bs H) (spl_agg _ _ _ rfl (same_b32 HH.out)) (fun W23 HSx => hKK _ _ ?_); clear hKK KK HS; have HS : St w noF [⟨g1, 67, recW ⟨e0, s0, l⟩ (.slice A k c)⟩, ⟨g2, 37, bs H⟩, ⟨g6, 37, bs H⟩] W23 := HSx; clear HSx))
      exact bodyPost_ret (v := .agg (bs H)) (results_cell_row Try.results62 _ _ g2 37 (bs H) (0, 0) _ rfl (HS.row 1 rfl) Try.underlying37 rfl (size_b32 HH.out)) rfl ⟨rfl, HS.below⟩
end Go.Proofs.Ytbdpocbnkgckhaa

/- The program's wal: a record's images written, Put. -/
set_option maxRecDepth 4000
namespace Go.Proofs.Ytbdpocbnkgckhaa
open Go Go.RowKit
theorem pc_block {D : Int} {q : List (BitVec 8)} (h : q.length = 32) : ((pcell (D, q)).toArray.toList.drop 1).take (bs q).size = (bs q).toList := by
  rw [size_bs, h, bs_toList]
  show (bytesV q).take 32 = bytesV q
  exact List.take_of_length_le (by rw [len_bytesV, h]; exact Nat.le_refl _)
theorem orElse_assoc (a : Int × DiskM) (k1 k2 : DiskM → Int × DiskM) : (orElse a fun M => orElse (k1 M) k2) = orElse (orElse a k1) k2 := by
  unfold orElse
  by_cases h : a.1 = 0
  · rw [if_pos h, if_pos h]
  · rw [if_neg h, if_neg h, if_neg h]
theorem imgs_l : ∀ (bl : List (List (BitVec 8))) (M : DiskM) (f : Int), (imgs M f bl).2.l.length ≤ M.l.length + bl.length
  | [], M, f => Nat.le_refl _
  | b :: bl, M, f => by
    show (orElse (M.wRes f b) fun M => imgs M (f + 1) bl).2.l.length ≤ M.l.length + (bl.length + 1)
    have h1 := wRes_l M f b (Nat.le_refl _)
    unfold orElse
    split
    · have := imgs_l bl (M.wRes f b).2 (f + 1); show (imgs (M.wRes f b).2 (f + 1) bl).2.l.length ≤ _; omega
    · omega
theorem runs_l (bl : List (List (BitVec 8))) (M : DiskM) (f : Int) : (orElse (imgs M f bl) fun M => M.fRes).2.l.length ≤ M.l.length + bl.length := by
  have h1 := imgs_l bl M f
  unfold orElse
  split
  · have := fRes_l (imgs M f bl).2; show (imgs M f bl).2.fRes.2.l.length ≤ _; omega
  · exact h1
set_option maxRecDepth 20000 in
set_option maxHeartbeats 1200000 in
theorem wimg_any (D : DiskOps) (base : Nat) (w : World) (p : Value) (M : DiskM) (F : Nat → Prop) (f : Int) (A : Option Addr) (c : Nat) (l : List (Int × List (BitVec 8))) (h : D.A base w p M F)
    (hv : PutsAt w (.slice A l.length c) l) (hA : l ≠ [] → ∀ k, (Value.slice A l.length c).ownBlock = some k → ¬ F k) (h5 : l.length ≤ 5) (hf0 : 0 ≤ f) (hf1 : f ≤ 1024) (hM : M.l.length + 10 ≤ few) :
    Calls Try.prog 60 #[p, .int .i64 f, .slice A l.length c] w (Acts D.A base w p F (orElse (imgs M (f + 1) (l.map (·.2))) fun M => M.fRes).2 (.int .i64 (orElse (imgs M (f + 1) (l.map (·.2))) fun M => M.fRes).1)) := by
  obtain ⟨n, hn⟩ : ∃ n, l.length = n := ⟨_, rfl⟩
  have HN := Lib.hid hn
  obtain ⟨K1, hK1⟩ : ∃ K1 : DiskM → Int × DiskM, (fun M => M.fRes) = K1 := ⟨_, rfl⟩
  have HK1 := Lib.hid hK1
  obtain ⟨RES, hRES⟩ : ∃ R, (orElse (imgs M (f + 1) (l.map (·.2))) fun M => M.fRes) = R := ⟨_, rfl⟩
  have HR : Hid (RES = orElse (imgs M (f + 1) (l.map (·.2))) K1) := Lib.hid (by rw [← hRES, ← hK1])
  rw [hRES]
  rw [hn] at hv hA h5 ⊢
  have HV := Lib.hid hv
  have HA := Lib.hid hA
  have HD0 : Hid (DSt D base w p F M w) := Lib.hid (DSt.start h)
  have HMB := Lib.hid hM
  have HFB : Hid (0 ≤ f ∧ f ≤ 1024) := Lib.hid ⟨hf0, hf1⟩
  clear hK1 hRES hn hv hA h hM
  go_enter Try.func60, Try.ntmps60
  go_wp2_with fail
  go_loopw [12] (fun i wr => ∃ (k : Nat) (Mk : DiskM), k ≤ n ∧ i = .int .i64 k ∧ DSt D base w p F Mk wr ∧ RES = orElse (imgs Mk (f + 1 + k) ((l.map (·.2)).drop k)) K1 ∧ Mk.l.length ≤ M.l.length + k) (fun i _ => n - (intOf i).toNat)
  case atStart => exact ⟨0, M, by omega, rfl, HD0.out, by rw [HR.out]; simp, by omega⟩
  case round =>
    obtain ⟨k, Mk, hk, rfl, hD, hR, hML⟩ := hrel
    have HDk := Lib.hid hD
    have HRk := Lib.hid hR
    have HML := Lib.hid hML
    clear hD hR hML
    by_cases hlt : k < n
    · obtain ⟨⟨B, q⟩, hx⟩ : ∃ x, l[k]? = some x := ⟨_, List.getElem?_eq_getElem (by rw [HN.out]; exact hlt)⟩
      obtain ⟨b, o, rfl, hbw, hr, hq, hlo, hhi⟩ := put_at_mem (puts_chg HV.out HDk.out.chg HA.out) HN.out hx
      have HRG := Lib.hid hr
      have HQ := Lib.hid hq
      have hk0 : (0 : Int) ≤ (k : Int) := by omega
      have hk1 : (k : Int) < (n : Int) := by omega
      have HIM : Hid (0 ≤ f ∧ f ≤ 2000 ∧ (0 : Int) ≤ (k : Int) ∧ (k : Int) ≤ 2000) := Lib.hid ⟨by omega, by omega, by omega, by omega⟩
      obtain ⟨res, hres⟩ : ∃ res, Mk.wRes (f + 1 + (k : Int)) q = res := ⟨_, rfl⟩
      have hL6 : (Mk.wRes (f + 1 + (k : Int)) q).2.l.length ≤ M.l.length + k + 1 := wRes_l Mk _ q HML.out
      have hdrop : (l.map (·.2)).drop k = q :: (l.map (·.2)).drop (k + 1) := by
        rw [← List.getElem_cons_drop (by rw [List.length_map]; exact (List.getElem?_eq_some_iff.1 hx).1)]
        congr 1
        rw [List.getElem?_eq_some_iff] at hx
        obtain ⟨_, h⟩ := hx
        rw [List.getElem_map, h]
      have hR6 : RES = orElse (orElse res fun M => imgs M (f + 1 + (k : Int) + 1) ((l.map (·.2)).drop (k + 1))) K1 := by rw [HRk.out, hdrop, ← hres]; rfl
      have HWR : Hid (∀ F1 W, D.A base W p Mk F1 → Calls Try.prog 61 #[p, .int .i64 (f + 1 + (k : Int)), .agg (bs q)] W (Acts D.A base W p F1 res.2 (.int .i64 res.1))) := Lib.hid (fun F1 W h1 => by
        have C := D.write base W p Mk F1 (f + 1 + (k : Int)) q h1 hq (by have := HML.out; have := HMB.out; omega) (by have := HFB.out; omega)
        rw [hres] at C
        exact C)
      rw [hres] at hL6
      obtain ⟨rr, M'⟩ := res
      have HRR : Hid ((rr = 0 → RES = orElse (imgs M' (f + 1 + ((k + 1 : Nat) : Int)) ((l.map (·.2)).drop (k + 1))) K1) ∧ (rr ≠ 0 → RES = (rr, M')) ∧ M'.l.length ≤ M.l.length + k + 1) := Lib.hid ⟨fun e => by
        subst e
        rw [hR6, show f + 1 + ((k + 1 : Nat) : Int) = f + 1 + (k : Int) + 1 by omega]; rfl, fun e => by rw [hR6]; unfold orElse; rw [if_neg e, if_neg e], hL6⟩
      have HSr := St.nil wr noF
      clear hx hr hq hdrop hR6 hL6 hres
      go_upto_region 4 with (first | (refine wpList_load_mid rfl 43 _ rfl b (o + k * 33) rfl (pcell (B, q)) _ HRG.out Try.underlying43 rfl (by rw [len_pcell HQ.out]; exact info_put33) ?_) | ((with_reducible refine wpList_plain ?_ ?_); exact rfl; intro KK hKK; refine wp_st_alloc HSr 43 (zput0) rfl (.agg (zput0)) (by kernel_rfl) (rfl) (fun g8 W11 HSx => hKK _ _ ?_); clear hKK KK HSr; have HSr : St wr noF [⟨g8, 43, zput0⟩] W11 := HSx; clear HSx) | ((with_reducible refine wpList_plain ?_ ?_); exact rfl; intro KK hKK; refine wp_st_store HSr 0 0 43 (.tmp 8) (.tmp 16) rfl rfl rfl (.agg (pcell (B, q)).toArray) rfl (by exact (size_pc HQ.out).symm ▸ info_put33) (by rw [Nat.zero_add]; exact Nat.le_of_eq ((size_pc HQ.out).trans size_zput.symm)) (one_pc (B, q)) ((pcell (B, q)).toArray) (spl_agg _ _ _ rfl (size_zput.trans (size_pc HQ.out).symm)) (fun W12 HSx => hKK _ _ ?_); clear hKK KK HSr; have HSr : St wr noF [⟨g8, 43, (pcell (B, q)).toArray⟩] W12 := HSx; clear HSx))
      have hF0 : Wl [fun W => St wr noF [⟨g8, 43, (pcell (B, q)).toArray⟩] W, fun W => DSt D base w p F M' W] 0 W12.drew := HSr.drew
      clear HSr HRG
      refine wp_region_phs [is (p), is (.int .i64 f), is (.int .i64 (k : Int)), is (.int .i64 (f + 1 + (k : Int))), is (.pointer (some ⟨g8, 1, none⟩)), is (.agg (bs q)), is (.int .i64 rr), is (.int .i64 rr)] [true, true, true, true, true, true, true, true] [(fun W => St wr noF [⟨g8, 43, (pcell (B, q)).toArray⟩] W), (fun W => DSt D base w p F M' W)] [false, false, false, false, false, false, true, false] [some 0, some 0, some 0, some 0, some 0, some 0, some 0, some 1] [some 17, some 18, some 19, some 20, some 21, some 22, some 23, some 9] 8 1 (fun _ => true) rfl rfl (by kernel_rfl) (by kernel_rfl) (by kernel_rfl) (by kernel_rfl) ?_ ?_ ?_ ?_ ?_ ?_
      · repeat first | exact wok_nil | refine wok_cons (by first | exact fun _ _ h k => h.same k) ?_
      · repeat first | exact vok_nil | refine vok_rig (by first | exact fun _ _ _ h => h) ?_ | refine vok_soft (by first | exact fun _ _ _ h _ => h) ?_
      · exact hF0
      · repeat first | exact all_end (by decide) | refine all_cons (by first | exact rfl | exact ⟨rfl, fun _ _ h => Or.inl h⟩ | exact ⟨rfl, fun _ _ h => Or.inr ⟨h, rfl⟩⟩) ?_
      · refine allp_mild 0 rfl rfl rfl (fun a x W hout hin hP => ?_) ?_
        · have e0 : a.tmps[0]? = some (p) := (hout 0 (by kernel_rfl)).trans rfl
          exact does_move rfl e0 ⟨Same.refl _, rfl⟩
        refine allp_mild 0 rfl rfl rfl (fun a x W hout hin hP => ?_) ?_
        · have e1 : a.tmps[1]? = some (.int .i64 f) := (hout 1 (by kernel_rfl)).trans rfl
          exact does_move rfl e1 ⟨Same.refl _, rfl⟩
        refine allp_mild 0 rfl rfl rfl (fun a x W hout hin hP => ?_) ?_
        · have e7 : a.tmps[7]? = some (.int .i64 (k : Int)) := (hout 7 (by kernel_rfl)).trans rfl
          exact does_move rfl e7 ⟨Same.refl _, rfl⟩
        refine allp_mild 0 rfl rfl rfl (fun a x W hout hin hP => ?_) ?_
        · have e18 := hin.is 1 18 (by kernel_rfl) (by decide) (by kernel_rfl) (by kernel_rfl) _ rfl
          have e19 := hin.is 2 19 (by kernel_rfl) (by decide) (by kernel_rfl) (by kernel_rfl) _ rfl
          have C := image_any f (k : Int) W HIM.out.1 HIM.out.2.1 HIM.out.2.2.1 HIM.out.2.2.2
          clear hP
          clear hin hout
          intro K Q hK
          go_simp
          refine C.mono ?_
          rintro e W' ⟨rfl, rfl⟩
          exact hK _ _ ⟨Same.refl _, rfl⟩
        refine allp_mild 0 rfl rfl rfl (fun a x W hout hin hP => ?_) ?_
        · have e8 : a.tmps[8]? = some (.pointer (some ⟨g8, 0, none⟩)) := (hout 8 (by kernel_rfl)).trans rfl
          clear hP
          clear hin hout
          intro K Q hK
          go_simp
          exact hK _ _ ⟨Same.refl _, rfl⟩
        refine allp_mild 0 rfl rfl rfl (fun a x W hout hin hP => ?_) ?_
        · have e21 := hin.is 4 21 (by kernel_rfl) (by decide) (by kernel_rfl) (by kernel_rfl) _ rfl
          clear hin hout
          intro K Q hK
          exact wp_st_load hP 0 1 37 (.tmp 21) rfl rfl (eval_of_get e21) (bs q) (pc_block HQ.out) _ Try.underlying37 rfl (size_b32 HQ.out) (hK _ _ ⟨Same.refl _, rfl⟩)
        refine allp_wild 0 rfl rfl rfl (fun a x W hout hin hP => ?_) ?_
        · have e17 := hin.is 0 17 (by kernel_rfl) (by decide) (by kernel_rfl) (by kernel_rfl) _ rfl
          have e20 := hin.is 3 20 (by kernel_rfl) (by decide) (by kernel_rfl) (by kernel_rfl) _ rfl
          have e22 := hin.is 5 22 (by kernel_rfl) (by decide) (by kernel_rfl) (by kernel_rfl) _ rfl
          have hd : DSt D base w p F Mk W := HDk.out.same hP.below
          obtain ⟨F1, h1, _, _, hN⟩ := hd.next
          have C := HWR.out F1 W h1
          clear hP hd
          clear hin hout
          intro K Q hK
          go_simp
          refine C.mono ?_
          rintro e W' ⟨rfl, hq⟩
          exact hK _ _ ⟨hN _ _ hq, rfl⟩
        refine allp_mild 1 rfl rfl rfl (fun a x W hout hin hP => ?_) ?_
        · have e23 := hin.is 6 23 (by kernel_rfl) (by decide) (by kernel_rfl) (by kernel_rfl) _ rfl
          exact does_assign rfl e23 ⟨Same.refl _, rfl⟩
        exact all_end (by decide)
      · intro x W hP hV
        have HD6 : DSt D base w p F M' W := hP
        have h9 : x 7 = .int .i64 rr := hV 7 (by decide) (.inl (by kernel_rfl))
        clear hP hV
        simp only [putL, Act.put, List.setIfInBounds_toArray, List.set_cons_succ, List.set_cons_zero, h9]
        refine wpAnyH_done (by kernel_rfl) ?_ _
        clear h9
        by_cases hr0 : rr = 0
        · subst hr0
          go_wp2_with fail
          exact ⟨⟨k + 1, M', by omega, by go_num, HD6, HRR.out.1 rfl, by have := HRR.out.2.2; omega⟩, by simp [intOf] <;> omega⟩
        · have hq0 : (rr == 0) = false := by simpa using hr0
          have hRf := HRR.out.2.1 hr0
          go_wp2_with fail
          go_ret
          first | exact HD6.acts rfl | (rw [hRf]; exact HD6.acts rfl)
    · obtain rfl : k = n := by omega
      have hnil : (l.map (·.2)).drop k = [] := List.drop_eq_nil_of_le (by rw [List.length_map]; exact Nat.le_of_eq HN.out)
      have hR8 : RES = Mk.fRes := by rw [HRk.out, hnil, ← HK1.out]; rfl
      obtain ⟨F1, h1, _, _, hN⟩ := HDk.out.next
      have C := D.flush base wr p Mk F1 h1 (by have := HML.out; have := HMB.out; omega)
      rw [← hR8] at C
      clear hnil hR8 h1
      have hq : decide ((k : Int) < (k : Int)) = false := decide_eq_false (by omega)
      go_wp2_with fail
      refine C.mono ?_
      rintro e W8 ⟨rfl, hd⟩
      have HD9 := hN _ _ hd
      clear C hd hN
      go_wp2_with fail
      go_ret
      exact HD9.acts rfl
set_option maxRecDepth 20000 in
set_option maxHeartbeats 1200000 in
theorem walput_any (D : DiskOps) (base : Nat) (w : World) (p : Value) (M : DiskM) (F : Nat → Prop) (f : Int) (e0 s0 : BitVec 32) (A : Option Addr) (c : Nat) (l : List (Int × List (BitVec 8))) (h : D.A base w p M F)
    (hf : -9223372036854775808 ≤ f ∧ f < 9223372036854775808) (hv : PutsAt w (.slice A l.length c) l) (hl : l.length ≤ maxLen) (hA : l ≠ [] → ∀ k, (Value.slice A l.length c).ownBlock = some k → k < w.heap.size ∧ ¬ F k) (hM : M.l.length + 10 ≤ few) :
    Calls Try.prog 38 #[p, .int .i64 f, .agg (recW ⟨e0, s0, l⟩ (.slice A l.length c))] w (Acts D.A base w p F (walPut M f ⟨e0, s0, l⟩).2 (.int .i64 (walPut M f ⟨e0, s0, l⟩).1)) := by
  obtain ⟨n, hn⟩ : ∃ n, l.length = n := ⟨_, rfl⟩
  have HN := Lib.hid hn
  have HRES : Hid (walPut M f ⟨e0, s0, l⟩ = if mayB M f && goodB (l.map (·.1)) then orElse (orElse (imgs M (f + 1) (l.map (·.2))) fun M => M.fRes) fun M => orElse (M.wRes f (headB e0 s0 (l.map (·.1)))) fun M => M.fRes else (1, M)) := Lib.hid (by
    unfold walPut; rw [orElse_assoc]; rfl)
  obtain ⟨RES, hRES⟩ : ∃ R, walPut M f ⟨e0, s0, l⟩ = R := ⟨_, rfl⟩
  rw [hRES] at HRES ⊢
  have HML : Hid (M.s.length ≤ 1024 ∧ M.l.length + 10 ≤ few) := Lib.hid ⟨(D.ok h).hi, hM⟩
  have HFl : Hid (∀ k, F k → k < w.heap.size) := Lib.hid fun k hk => (D.lt h k hk).2
  have HF := Lib.hid hf
  have HL := Lib.hid hl
  have HV := Lib.hid (show PutsAt w (.slice A n c) l by rw [← hn]; exact hv)
  have HA := Lib.hid (show l ≠ [] → ∀ k, (Value.slice A n c).ownBlock = some k → k < w.heap.size ∧ ¬ F k by rw [← hn]; exact hA)
  have HA0 := Lib.hid h
  rw [hn]
  clear hRES hM hf hl hv hA h hn
  have HS := St.nil w noF
  go_enter Try.func38, Try.ntmps38
  go_upto_region 1 with (first | ((with_reducible refine wpList_plain ?_ ?_); exact rfl; intro KK hKK; refine wp_st_box HS 67 (.tmp 2) rfl _ rfl (recW ⟨e0, s0, l⟩ (.slice A n c)) (rfl) (fun g5 W1 HSx => hKK _ _ ?_); clear hKK KK HS; have HS : St w noF [⟨g5, 67, recW ⟨e0, s0, l⟩ (.slice A n c)⟩] W1 := HSx; clear HSx))
  have HB1 := Lib.hid HS.below
  have R5 := Lib.hid (HS.row 0 rfl)
  have HG5 : Hid (¬ F g5) := Lib.hid (fun hF => by
    have h1 := HFl.out g5 hF
    rcases HS.own 0 _ rfl with h2 | h2
    · exact h2
    · exact absurd h1 (Nat.not_lt.2 h2))
  have HA1 := Lib.hid (D.still HA0.out HB1.out)
  have HV1 := Lib.hid (HV.out.below HB1.out (Nat.le_refl _))
  have C1 := haslog_any W1 D base p M F HA1.out f HF.out
  clear HS
  go_wp2_with fail
  refine C1.mono ?_
  rintro e w1 ⟨rfl, b1⟩
  have B1 := Lib.hid b1
  clear C1 b1
  cases hmay : mayB M f with
  | false =>
    have hR : RES = (1, M) := by rw [HRES.out, hmay]; rfl
    go_wp2_with fail
    go_ret
    first | exact (((DSt.start HA1.out).same B1.out).rebase HB1.out).acts rfl | (rw [hR]; exact (((DSt.start HA1.out).same B1.out).rebase HB1.out).acts rfl)
  | true =>
    have k2 : w1.cell? ⟨g5, 2, none⟩ = some (.slice A n c) := (R5.out.call B1.out).get rfl
    have C2 := walgood_any l (.slice A n c) w1 (HV1.out.below B1.out (Nat.le_refl _)) HL.out
    go_wp2_with fail
    refine C2.mono ?_
    rintro e w2 ⟨rfl, b2⟩
    have B2 := Lib.hid (B1.out.trans (b2.mono B1.out.size))
    clear C2 b2 k2
    cases hgood : goodB (l.map (·.1)) with
    | false =>
      have hR : RES = (1, M) := by rw [HRES.out, hgood, Bool.and_false]; rfl
      clear hgood hmay
      go_wp2_with fail
      go_ret
      first | exact (((DSt.start HA1.out).same B2.out).rebase HB1.out).acts rfl | (rw [hR]; exact (((DSt.start HA1.out).same B2.out).rebase HB1.out).acts rfl)
    | true =>
      have HR : Hid (RES = orElse (orElse (imgs M (f + 1) (l.map (·.2))) fun M => M.fRes) fun M => orElse (M.wRes f (headB e0 s0 (l.map (·.1)))) fun M => M.fRes) := Lib.hid (by rw [HRES.out, hmay, hgood]; rfl)
      have HM6 : Hid (0 ≤ f ∧ f + 6 ≤ (M.s.length : Int)) := Lib.hid (by unfold mayB at hmay; simpa using hmay)
      have HN5 : Hid (1 ≤ n ∧ n ≤ 5) := Lib.hid (by unfold goodB at hgood; simp only [Bool.and_eq_true, decide_eq_true_eq, List.length_map] at hgood; have := HN.out; omega)
      clear hgood hmay HRES
      have k2 : w2.cell? ⟨g5, 2, none⟩ = some (.slice A n c) := (R5.out.call B2.out).get rfl
      have C3 := wimg_any D base w2 p M F f A c l (D.still HA1.out B2.out) (by rw [HN.out]; exact HV1.out.below B2.out (Nat.le_refl _)) (by rw [HN.out]; exact fun hne k hk => (HA.out hne k hk).2) (by rw [HN.out]; exact HN5.out.2) HM6.out.1 (by have := HM6.out; have := HML.out; omega) HML.out.2
      obtain ⟨res, hres⟩ : ∃ res, (orElse (imgs M (f + 1) (l.map (·.2))) fun M => M.fRes) = res := ⟨_, rfl⟩
      have HLL : Hid (res.2.l.length ≤ M.l.length + n) := Lib.hid (by rw [← hres]; have := runs_l (l.map (·.2)) M (f + 1); rwa [List.length_map, HN.out] at this)
      rw [hres, HN.out] at C3
      rw [hres] at HR
      obtain ⟨r3, M3⟩ := res
      clear hres
      go_wp2_with fail
      refine C3.mono ?_
      rintro e w3 ⟨rfl, hd⟩
      have HD3 := Lib.hid (DSt.rebase B2.out (show DSt D base w2 p F M3 w3 from hd))
      clear C3 hd k2
      by_cases hr0 : r3 = 0
      case neg =>
        have hq0 : (r3 == 0) = false := by simpa using hr0
        have hR : RES = (r3, M3) := by rw [HR.out]; unfold orElse; rw [if_neg hr0]
        go_wp2_with fail
        go_ret
        first | exact (HD3.out.rebase HB1.out).acts rfl | (rw [hR]; exact (HD3.out.rebase HB1.out).acts rfl)
      subst hr0
      have HR4 : Hid (RES = orElse (M3.wRes f (headB e0 s0 (l.map (·.1)))) fun M => M.fRes) := Lib.hid (by rw [HR.out]; rfl)
      have r5 := HD3.out.row R5.out HG5.out
      have rr : w3.rangeAt g5 0 (recW ⟨e0, s0, l⟩ (.slice A n c)).toList := r5.slab 0 _ (by rw [List.drop_zero]; exact List.take_length)
      have C4 := header_any e0 s0 A c l w3 (by rw [HN.out]; exact puts_chg HV1.out HD3.out.chg (fun hne k hk => (HA.out hne k hk).2)) (by rw [HN.out]; exact HN5.out.2)
      rw [HN.out] at C4
      obtain ⟨H, hH⟩ : ∃ H, headB e0 s0 (l.map (·.1)) = H := ⟨_, rfl⟩
      have HH : Hid (H.length = 32) := Lib.hid (by rw [← hH]; exact length_headB (by rw [List.length_map, HN.out]; exact HN5.out.2))
      rw [hH] at C4 HR4
      clear hH HR r5
      go_wp2_with (refine wpList_load_mid rfl 67 _ rfl g5 0 rfl (recW ⟨e0, s0, l⟩ (.slice A n c)).toList _ rr Try.underlying67 rfl info_rec ?_)
      refine C4.mono ?_
      rintro e w4 ⟨rfl, b4⟩
      have HD4 := HD3.out.same b4
      clear C4 b4 rr
      obtain ⟨F4, h4, _, _, hN⟩ := HD4.next
      have C5 := D.write base w4 p M3 F4 f H h4 HH.out (by have := HLL.out; have := HN5.out; have := HML.out.2; show M3.l.length ≤ few; omega) HF.out
      have HLX : Hid ((M3.wRes f H).2.l.length ≤ M.l.length + n + 1) := Lib.hid (wRes_l M3 f H HLL.out)
      obtain ⟨⟨r9, M9⟩, hres⟩ : ∃ res, M3.wRes f H = res := ⟨_, rfl⟩
      rw [hres] at C5 HLX HR4
      clear hres h4 HD4
      go_wp2_with fail
      refine C5.mono ?_
      rintro e w5 ⟨rfl, hd⟩
      have HD5 := Lib.hid (hN _ _ hd)
      clear C5 hd hN
      by_cases hr0 : r9 = 0
      case neg =>
        have hq0 : (r9 == 0) = false := by simpa using hr0
        have hR : RES = (r9, M9) := by rw [HR4.out]; unfold orElse; rw [if_neg hr0]
        go_wp2_with fail
        go_ret
        first | exact (HD5.out.rebase HB1.out).acts rfl | (rw [hR]; exact (HD5.out.rebase HB1.out).acts rfl)
      subst hr0
      have HR5 : Hid (RES = M9.fRes) := Lib.hid (by rw [HR4.out]; rfl)
      obtain ⟨F5, h5, _, _, hN⟩ := HD5.out.next
      have C6 := D.flush base w5 p M9 F5 h5 (by have := HLX.out; have := HN5.out; have := HML.out.2; omega)
      rw [← HR5.out] at C6
      clear h5
      go_wp2_with fail
      refine C6.mono ?_
      rintro e w6 ⟨rfl, hd⟩
      have HD6 := hN _ _ hd
      clear C6 hd hN
      go_wp2_with fail
      go_ret
      exact (HD6.rebase HB1.out).acts rfl
set_option maxHeartbeats 400000 in
theorem walput_nil (D : DiskOps) (w : World) (f : Int) (e0 s0 : BitVec 32) (A : Option Addr) (c : Nat) (l : List (Int × List (BitVec 8))) (hf : -9223372036854775808 ≤ f ∧ f < 9223372036854775808) :
    Calls Try.prog 38 #[nilPtr, .int .i64 f, .agg (recW ⟨e0, s0, l⟩ (.slice A l.length c))] w (Asks w (.int .i64 1)) := by
  obtain ⟨n, hn⟩ : ∃ n, l.length = n := ⟨_, rfl⟩
  rw [hn]
  clear hn
  have HF := Lib.hid hf
  clear hf
  have HS := St.nil w noF
  go_enter Try.func38, Try.ntmps38
  go_upto_region 1 with (first | ((with_reducible refine wpList_plain ?_ ?_); exact rfl; intro KK hKK; refine wp_st_box HS 67 (.tmp 2) rfl _ rfl (recW ⟨e0, s0, l⟩ (.slice A n c)) (rfl) (fun g5 W1 HSx => hKK _ _ ?_); clear hKK KK HS; have HS : St w noF [⟨g5, 67, recW ⟨e0, s0, l⟩ (.slice A n c)⟩] W1 := HSx; clear HSx))
  have HB1 := Lib.hid HS.below
  have C1 := haslog_nil W1 D f HF.out
  clear HS
  go_wp2_with fail
  refine C1.mono ?_
  rintro e w1 ⟨rfl, b1⟩
  clear C1
  go_wp2_with fail
  go_ret
  exact ⟨rfl, HB1.out.trans (b1.mono HB1.out.size)⟩
end Go.Proofs.Ytbdpocbnkgckhaa

/- The program's wal: the record of a header. -/
set_option maxRecDepth 4000
namespace Go.Proofs.Ytbdpocbnkgckhaa
open Go Go.RowKit
theorem zeros_rw : (#[.int .u32 0, .int .u32 0, .slice none 0 0] : Array Value) = recW rec0 (.slice none 0 0) := by rfl
theorem one_rw (r : Rec) (A : Option Addr) (n c : Nat) : (recW r (.slice A n c)).all (·.oneCell') = true := by simp [recW, Value.oneCell']
theorem size_s30 {b : List (BitVec 8)} (h : b.length = 30) : (Try.prog.info? 77).map (·.size) = some (bs b).size := by rw [size_bs, h]; exact size_sec
theorem same_s30 {b : List (BitVec 8)} (h : b.length = 30) : (bs (zer 30)).size = (bs b).size := by rw [size_bs, size_bs, h, length_zer]
theorem wp_make_puts {o : Oper} {a : Act} {W : World} {K : Act → World → Prop} {Q : Exit → Act → World → Prop} (l c : Operand) (hop : o.op = .makeSlice 27 l c) (kl kc : IntKind) (n : Nat) (h5 : n ≤ 5) (hl : a.eval l = .int kl (n : Int)) (hc : a.eval c = .int kc (n : Int))
    (hK : K (a.put o.dst (.slice (some ⟨W.heap.size, 0, none⟩) n n)) (W.alloc (.cells (pcs (List.replicate n (0, zer 32))) 43))) : o.wp Try.prog a W K Q := by
  obtain ⟨i0, hi, hz0, hz1, hz2⟩ := info_parts info_put
  have hr := run_make (P := Try.prog) W 27 43 i0 (.agg zput0) Try.underlying27 hi hz0 kl kc n n (by omega) (Int.le_refl _) (by rw [hz2]; omega) (by omega)
  simp only [Int.toNat_natCast] at hr
  rw [hz1, show (Value.agg zput0).cells = zput0 from rfl, made_puts n h5] at hr
  unfold Oper.wp
  simp [execOp, hop, hl, hc, hr, Result.andThen]
  exact hK
def HeadTold (w : World) (b : List (BitVec 8)) : Ending → World → Prop := fun e w' =>
  if isHead b = true then ∃ g, e = .returned (.tuple #[.agg (recW ⟨num ((bodyOf b).take 4), num (((bodyOf b).drop 4).take 4), []⟩ (.slice (some ⟨g, 0, none⟩) (cnt b) (cnt b))), .int .i64 0]) ∧ Row w' g 43 (pcs ((atsOf b).map fun i => (i, zer 32))) ∧ w.heap.size ≤ g ∧ Below w.heap.size w w'
  else e = .returned (.tuple #[.agg (recW rec0 (.slice none 0 0)), .int .i64 11]) ∧ Below w.heap.size w w'
theorem headtold_no {w w' : World} {b : List (BitVec 8)} (h : isHead b = false) (k : Below w.heap.size w w') : HeadTold w b (.returned (.tuple #[.agg (recW rec0 (.slice none 0 0)), .int .i64 11])) w' := by
  unfold HeadTold; rw [h, if_neg (by decide)]; exact ⟨rfl, k⟩
/- the puts while they are told -/
def atK (q : List (BitVec 8)) (i : Nat) : Int := ((q.getD (9 + i) 0#8).toNat : Int)
def lz (q : List (BitVec 8)) (n k : Nat) : List (Int × List (BitVec 8)) := (List.range n).map fun i => (if i < k then atK q i else 0, zer 32)
theorem lz_len (q : List (BitVec 8)) (n k : Nat) : (lz q n k).length = n := by simp [lz]
theorem lz_32 (q : List (BitVec 8)) (n k : Nat) : ∀ x ∈ lz q n k, x.2.length = 32 := by
  intro x hx
  obtain ⟨i, _, rfl⟩ := List.mem_map.1 hx
  exact length_zer 32
theorem lz_0 (q : List (BitVec 8)) (n : Nat) : List.replicate n ((0 : Int), zer 32) = lz q n 0 := by
  apply List.ext_getElem (by simp [lz])
  intro i h1 h2
  simp [lz]
theorem lz_at (q : List (BitVec 8)) (n k : Nat) (h : k < n) : (lz q n k)[k]? = some (0, zer 32) := by simp [lz, h]
theorem lz_set (q : List (BitVec 8)) (n k : Nat) (_ : k < n) : (lz q n k).set k (atK q k, zer 32) = lz q n (k + 1) := by
  apply List.ext_getElem (by simp [lz])
  intro i h1 h2
  rw [List.getElem_set]
  simp only [lz, List.getElem_map, List.getElem_range]
  by_cases e : k = i
  · subst e; rw [if_pos rfl, if_pos (by omega)]
  · rw [if_neg e]
    by_cases hlt : i < k
    · rw [if_pos hlt, if_pos (by omega)]
    · rw [if_neg hlt, if_neg (by omega)]
theorem lz_all (q : List (BitVec 8)) (n : Nat) : lz q n n = ((List.range n).map (atK q)).map fun i => (i, zer 32) := by
  unfold lz
  rw [List.map_map]
  apply List.map_congr_left
  intro i hi
  rw [if_pos (List.mem_range.1 hi)]; rfl
theorem lz_fst (q : List (BitVec 8)) (n : Nat) : (lz q n n).map (·.1) = (List.range n).map (atK q) := by rw [lz_all, List.map_map]; exact (List.map_congr_left (fun i _ => rfl)).trans (List.map_id _)
theorem atK_b (q : List (BitVec 8)) (i : Nat) : 0 ≤ atK q i ∧ atK q i < 256 := by unfold atK; have := (q.getD (9 + i) 0#8).isLt; omega
attribute [local go_sem high] eql_blk
set_option maxRecDepth 20000 in
set_option maxHeartbeats 1200000 in
theorem without_any (b : List (BitVec 8)) (w : World) (hb : b.length = 32) : Calls Try.prog 49 #[.agg (bs b)] w (HeadTold w b) := by
  have HBL := Lib.hid hb
  have hz := zeros_rw
  cases hd : decOk b with
  | false =>
    have HNO : Hid (isHead b = false) := Lib.hid (isHead_no hd)
    have C : ∀ W, Calls Try.prog 27 #[.agg (bs b)] W fun e w' => e = .returned (.tuple #[.agg (bs (zer 30)), .int .i64 11]) ∧ Below W.heap.size W w' := fun W => by
      have := sealOps.dec b W hb
      rw [show decR b = zer 30 by unfold decR; rw [hd]; rfl, show decE b = 11 by unfold decE; rw [hd]; rfl] at this
      exact this
    have HC := Lib.hid C
    have HX30 : Hid ((zer 30).length = 30) := Lib.hid (length_zer 30)
    have HS := St.nil w noF
    clear hd hb C
    go_enter Try.func49, Try.ntmps49
    go_wp2_with (first | ((with_reducible refine wpList_plain ?_ ?_); exact rfl; intro KK hKK; refine wp_st_box HS 37 (.tmp 0) rfl _ rfl (bs b) (rfl) (fun g1 W1 HSx => hKK _ _ ?_); clear hKK KK HS; have HS : St w noF [⟨g1, 37, bs b⟩] W1 := HSx; clear HSx) | ((with_reducible refine wpList_plain ?_ ?_); exact rfl; intro KK hKK; refine wp_st_alloc HS 67 (recW rec0 (.slice none 0 0)) rfl (.agg (recW rec0 (.slice none 0 0))) (by kernel_rfl) (rfl) (fun g2 W2 HSx => hKK _ _ ?_); clear hKK KK HS; have HS : St w noF [⟨g1, 37, bs b⟩, ⟨g2, 67, recW rec0 (.slice none 0 0)⟩] W2 := HSx; clear HSx) | ((with_reducible refine wpList_plain ?_ ?_); exact rfl; intro KK hKK; refine wp_st_load HS 0 0 37 (.tmp 1) rfl rfl rfl (bs b) (slab_whole _) _ Try.underlying37 rfl (size_b32 HBL.out) (hKK _ _ ?_); clear hKK KK))
    refine (HC.out _).mono ?_
    rintro e w1 ⟨rfl, hb1⟩
    have HSx := HS.same hb1
    clear HS hb1
    have HS := HSx
    clear HSx
    go_wp2_with (first | ((with_reducible refine wpList_plain ?_ ?_); exact rfl; intro KK hKK; refine wp_st_alloc HS 77 (bs (zer 30)) rfl (.agg (bs (zer 30))) (by kernel_rfl) (rfl) (fun g4 W3 HSx => hKK _ _ ?_); clear hKK KK HS; have HS : St w noF [⟨g1, 37, bs b⟩, ⟨g2, 67, recW rec0 (.slice none 0 0)⟩, ⟨g4, 77, bs (zer 30)⟩] W3 := HSx; clear HSx) | ((with_reducible refine wpList_plain ?_ ?_); exact rfl; intro KK hKK; refine wp_st_store HS 2 0 77 (.tmp 4) (.tmp 11) rfl rfl rfl (.agg (bs (zer 30))) rfl (by exact size_s30 HX30.out) (by rw [Nat.zero_add]; exact Nat.le_of_eq (same_s30 HX30.out).symm) (by exact one_bs _) (bs (zer 30)) (spl_agg _ _ _ rfl (same_s30 HX30.out)) (fun W4 HSx => hKK _ _ ?_); clear hKK KK HS; have HS : St w noF [⟨g1, 37, bs b⟩, ⟨g2, 67, recW rec0 (.slice none 0 0)⟩, ⟨g4, 77, bs (zer 30)⟩] W4 := HSx; clear HSx) | ((with_reducible refine wpList_plain ?_ ?_); exact rfl; intro KK hKK; refine wp_st_store HS 1 0 67 (.tmp 2) (.tmp 21) rfl rfl rfl (.agg #[.int .u32 0, .int .u32 0, .slice none 0 0]) rfl (by exact info_rec) (by exact Nat.le_refl 3) (by exact one_rw rec0 none 0 0) (recW rec0 (.slice none 0 0)) (spl_agg _ _ _ zeros_rw rfl) (fun W5 HSx => hKK _ _ ?_); clear hKK KK HS; have HS : St w noF [⟨g1, 37, bs b⟩, ⟨g2, 67, recW rec0 (.slice none 0 0)⟩, ⟨g4, 77, bs (zer 30)⟩] W5 := HSx; clear HSx))
    exact bodyPost_ret (v := .tuple #[.agg (recW rec0 (.slice none 0 0)), .int .i64 11]) (results_cell_tmp Try.results49 _ _ g2 67 (recW rec0 (.slice none 0 0)) (0, 0) _ rfl (HS.row 1 rfl) Try.underlying67 rfl (by exact info_rec)) rfl (headtold_no HNO.out HS.below)
  | true =>
    obtain ⟨m, hm⟩ : ∃ m, markOf b = m := ⟨_, rfl⟩
    obtain ⟨q, hq⟩ : ∃ q, bodyOf b = q := ⟨_, rfl⟩
    obtain ⟨n, hn⟩ : ∃ n, cnt b = n := ⟨_, rfl⟩
    have hql : q.length = 29 := by rw [← hq]; exact length_bodyOf hb
    have HX30 : Hid ((m :: q).length = 30) := Lib.hid (by rw [List.length_cons, hql])
    have hR : decR b = m :: q := by unfold decR; rw [hd, if_pos rfl, ← take30 hb, hm, hq]; exact pad30_full hql
    have HC : Hid (∀ W, Calls Try.prog 27 #[.agg (bs b)] W fun e w' => e = .returned (.tuple #[.agg (bs (m :: q)), .int .i64 0]) ∧ Below W.heap.size W w') := Lib.hid (fun W => by
      have := sealOps.dec b W hb
      rw [hR, show decE b = 0 by unfold decE; rw [hd]; rfl] at this
      exact this)
    have hny : n = (q.getD 8 0#8).toNat := by rw [← hn, ← hq]; rfl
    have HCK : Hid (∀ k, k < 20 → (bs (m :: q))[1 + (9 + k)]? = some (.int .u8 (atK q k))) := Lib.hid (fun k hk => by
      have := get_bs (m :: q) (1 + (9 + k)) (by rw [HX30.out]; omega)
      rw [this, Nat.add_comm 1 (9 + k)]; rfl)
    have HC8 : Hid ((bs (m :: q))[9]? = some (.int .u8 (n : Int))) := Lib.hid (by
      have := get_bs (m :: q) 9 (by rw [HX30.out]; decide)
      rw [this, hny]; rfl)
    have HAT : Hid ((List.range n).map (atK q) = atsOf b) := Lib.hid (by unfold atsOf; rw [hn, hq]; rfl)
    have HL0 : Hid (lv 1 (m :: q) = lv 0 q) := Lib.hid rfl
    have HL4 : Hid (lv 5 (m :: q) = lv 4 q) := Lib.hid rfl
    have HNUM : Hid (num ((bodyOf b).take 4) = lv 0 q ∧ num (((bodyOf b).drop 4).take 4) = lv 4 q ∧ cnt b = n) := Lib.hid ⟨by rw [hq, lv_num q 0 (by omega)]; rfl, by rw [hq, lv_num q 4 (by omega)], hn⟩
    have HS := St.nil w noF
    by_cases h5 : n ≤ 5
    case neg =>
      have HNO : Hid (isHead b = false) := Lib.hid (isHead_many (by rw [hn]; exact h5))
      have hq5 : decide ((5 : Int) < (n : Int)) = true := decide_eq_true (by omega)
      clear hd hb hm hq hn hR hny h5 hql
      go_enter Try.func49, Try.ntmps49
      go_wp2_with (first | ((with_reducible refine wpList_plain ?_ ?_); exact rfl; intro KK hKK; refine wp_st_box HS 37 (.tmp 0) rfl _ rfl (bs b) (rfl) (fun g1 W1 HSx => hKK _ _ ?_); clear hKK KK HS; have HS : St w noF [⟨g1, 37, bs b⟩] W1 := HSx; clear HSx) | ((with_reducible refine wpList_plain ?_ ?_); exact rfl; intro KK hKK; refine wp_st_alloc HS 67 (recW rec0 (.slice none 0 0)) rfl (.agg (recW rec0 (.slice none 0 0))) (by kernel_rfl) (rfl) (fun g2 W2 HSx => hKK _ _ ?_); clear hKK KK HS; have HS : St w noF [⟨g1, 37, bs b⟩, ⟨g2, 67, recW rec0 (.slice none 0 0)⟩] W2 := HSx; clear HSx) | ((with_reducible refine wpList_plain ?_ ?_); exact rfl; intro KK hKK; refine wp_st_load HS 0 0 37 (.tmp 1) rfl rfl rfl (bs b) (slab_whole _) _ Try.underlying37 rfl (size_b32 HBL.out) (hKK _ _ ?_); clear hKK KK))
      refine (HC.out _).mono ?_
      rintro e w1 ⟨rfl, hb1⟩
      have HSx := HS.same hb1
      clear HS hb1
      have HS := HSx
      clear HSx
      go_upto_region 2 with (first | ((with_reducible refine wpList_plain ?_ ?_); exact rfl; intro KK hKK; refine wp_st_alloc HS 77 (bs (zer 30)) rfl (.agg (bs (zer 30))) (by kernel_rfl) (rfl) (fun g4 W3 HSx => hKK _ _ ?_); clear hKK KK HS; have HS : St w noF [⟨g1, 37, bs b⟩, ⟨g2, 67, recW rec0 (.slice none 0 0)⟩, ⟨g4, 77, bs (zer 30)⟩] W3 := HSx; clear HSx) | ((with_reducible refine wpList_plain ?_ ?_); exact rfl; intro KK hKK; refine wp_st_store HS 2 0 77 (.tmp 4) (.tmp 11) rfl rfl rfl (.agg (bs (m :: q))) rfl (by exact size_s30 HX30.out) (by rw [Nat.zero_add]; exact Nat.le_of_eq (same_s30 HX30.out).symm) (by exact one_bs _) (bs (m :: q)) (spl_agg _ _ _ rfl (same_s30 HX30.out)) (fun W4 HSx => hKK _ _ ?_); clear hKK KK HS; have HS : St w noF [⟨g1, 37, bs b⟩, ⟨g2, 67, recW rec0 (.slice none 0 0)⟩, ⟨g4, 77, bs (m :: q)⟩] W4 := HSx; clear HSx))
      have c8 : W4.cell? ⟨g4, 9, none⟩ = some (.int .u8 (n : Int)) := (HS.row 2 rfl).get HC8.out
      go_wp2_with (first | ((with_reducible refine wpList_plain ?_ ?_); exact rfl; intro KK hKK; refine wp_st_store HS 1 0 67 (.tmp 2) (.tmp 21) rfl rfl rfl (.agg #[.int .u32 0, .int .u32 0, .slice none 0 0]) rfl (by exact info_rec) (by exact Nat.le_refl 3) (by exact one_rw rec0 none 0 0) (recW rec0 (.slice none 0 0)) (spl_agg _ _ _ zeros_rw rfl) (fun W5 HSx => hKK _ _ ?_); clear hKK KK HS; have HS : St w noF [⟨g1, 37, bs b⟩, ⟨g2, 67, recW rec0 (.slice none 0 0)⟩, ⟨g4, 77, bs (m :: q)⟩] W5 := HSx; clear HSx))
      exact bodyPost_ret (v := .tuple #[.agg (recW rec0 (.slice none 0 0)), .int .i64 11]) (results_cell_tmp Try.results49 _ _ g2 67 (recW rec0 (.slice none 0 0)) (0, 0) _ rfl (HS.row 1 rfl) Try.underlying67 rfl (by exact info_rec)) rfl (headtold_no HNO.out HS.below)
    have HHE : Hid ((goodB (atsOf b) && decide (headB (lv 0 q) (lv 4 q) (atsOf b) = b)) = isHead b) := Lib.hid (by have := head_eq hb hd (by rw [hn]; exact h5); rwa [hq] at this)
    have HN5 := Lib.hid h5
    have hq5 : decide ((5 : Int) < (n : Int)) = false := decide_eq_false (by omega)
    clear hd hb hm hq hn hR hny hql
    go_enter Try.func49, Try.ntmps49
    go_wp2_with (first | ((with_reducible refine wpList_plain ?_ ?_); exact rfl; intro KK hKK; refine wp_st_box HS 37 (.tmp 0) rfl _ rfl (bs b) (rfl) (fun g1 W1 HSx => hKK _ _ ?_); clear hKK KK HS; have HS : St w noF [⟨g1, 37, bs b⟩] W1 := HSx; clear HSx) | ((with_reducible refine wpList_plain ?_ ?_); exact rfl; intro KK hKK; refine wp_st_alloc HS 67 (recW rec0 (.slice none 0 0)) rfl (.agg (recW rec0 (.slice none 0 0))) (by kernel_rfl) (rfl) (fun g2 W2 HSx => hKK _ _ ?_); clear hKK KK HS; have HS : St w noF [⟨g1, 37, bs b⟩, ⟨g2, 67, recW rec0 (.slice none 0 0)⟩] W2 := HSx; clear HSx) | ((with_reducible refine wpList_plain ?_ ?_); exact rfl; intro KK hKK; refine wp_st_load HS 0 0 37 (.tmp 1) rfl rfl rfl (bs b) (slab_whole _) _ Try.underlying37 rfl (size_b32 HBL.out) (hKK _ _ ?_); clear hKK KK))
    refine (HC.out _).mono ?_
    rintro e w1 ⟨rfl, hb1⟩
    have HSx := HS.same hb1
    clear HS hb1
    have HS := HSx
    clear HSx
    go_upto_region 2 with (first | ((with_reducible refine wpList_plain ?_ ?_); exact rfl; intro KK hKK; refine wp_st_alloc HS 77 (bs (zer 30)) rfl (.agg (bs (zer 30))) (by kernel_rfl) (rfl) (fun g4 W3 HSx => hKK _ _ ?_); clear hKK KK HS; have HS : St w noF [⟨g1, 37, bs b⟩, ⟨g2, 67, recW rec0 (.slice none 0 0)⟩, ⟨g4, 77, bs (zer 30)⟩] W3 := HSx; clear HSx) | ((with_reducible refine wpList_plain ?_ ?_); exact rfl; intro KK hKK; refine wp_st_store HS 2 0 77 (.tmp 4) (.tmp 11) rfl rfl rfl (.agg (bs (m :: q))) rfl (by exact size_s30 HX30.out) (by rw [Nat.zero_add]; exact Nat.le_of_eq (same_s30 HX30.out).symm) (by exact one_bs _) (bs (m :: q)) (spl_agg _ _ _ rfl (same_s30 HX30.out)) (fun W4 HSx => hKK _ _ ?_); clear hKK KK HS; have HS : St w noF [⟨g1, 37, bs b⟩, ⟨g2, 67, recW rec0 (.slice none 0 0)⟩, ⟨g4, 77, bs (m :: q)⟩] W4 := HSx; clear HSx))
    have c8 : W4.cell? ⟨g4, 9, none⟩ = some (.int .u8 (n : Int)) := (HS.row 2 rfl).get HC8.out
    go_upto_region 4 with fail
    clear c8 hq5 hz
    obtain ⟨B0, hB0⟩ : ∃ B0, W4.heap.size = B0 := ⟨_, rfl⟩
    have HB0 : Hid (w.heap.size ≤ B0) := Lib.hid (by rw [← hB0]; exact HS.below.size)
    have HLT : Hid (∀ g, B0 ≤ g → ∀ bb ∈ ([⟨g1, 37, bs b⟩, ⟨g2, 67, recW rec0 (.slice none 0 0)⟩, ⟨g4, 77, bs (m :: q)⟩] : List Blk), bb.g ≠ g) := Lib.hid (fun g hg bb hb e => by
      have := HS.lt hb
      rw [hB0] at this
      omega)
    have hF0 : Wl [fun W => St w noF [⟨g1, 37, bs b⟩, ⟨g2, 67, recW rec0 (.slice none 0 0)⟩, ⟨g4, 77, bs (m :: q)⟩] W ∧ B0 ≤ W.heap.size, fun W => St w noF [⟨g1, 37, bs b⟩, ⟨g2, 67, recW rec0 (.slice none 0 0)⟩, ⟨g4, 77, bs (m :: q)⟩] W ∧ B0 ≤ W.heap.size] 0 W4.drew := ⟨HS.drew, Nat.le_of_eq hB0.symm⟩
    clear HS hB0
    refine wp_region_phas [is (.pointer (some ⟨g4, 1, none⟩)), is (.slice (some ⟨g4, 1, none⟩) 29 29), is (.int .u32 (wd (lv 0 q))), is (.pointer (some ⟨g4, 1, none⟩)), is (.slice (some ⟨g4, 5, none⟩) 25 25), is (.int .u32 (wd (lv 4 q))), is (.pointer (some ⟨g4, 1, none⟩)), is (.pointer (some ⟨g4, 9, none⟩)), is (.int .u8 (n : Int)), (fun v W => ∃ g, v = Value.slice (some ⟨g, 0, none⟩) n n ∧ Row W g 43 (pcs (lz q n 0)) ∧ B0 ≤ g), (fun v W => ∃ g, v = Value.agg (recW ⟨lv 0 q, lv 4 q, []⟩ (.slice (some ⟨g, 0, none⟩) n n)) ∧ Row W g 43 (pcs (lz q n 0)) ∧ B0 ≤ g), (fun v W => ∃ g, v = Value.pointer (some ⟨g, 0, none⟩) ∧ Row W g 67 (recW rec0 (.slice none 0 0)) ∧ B0 ≤ g), (fun v W => ∃ g k, v = Value.pointer (some ⟨g, 0, none⟩) ∧ Row W g 67 (recW ⟨lv 0 q, lv 4 q, []⟩ (.slice (some ⟨k, 0, none⟩) n n)) ∧ Row W k 43 (pcs (lz q n 0)) ∧ B0 ≤ g ∧ B0 ≤ k)] [true, true, true, true, true, true, true, true, true, false, false, false, false] [(fun W => St w noF [⟨g1, 37, bs b⟩, ⟨g2, 67, recW rec0 (.slice none 0 0)⟩, ⟨g4, 77, bs (m :: q)⟩] W ∧ B0 ≤ W.heap.size), (fun W => St w noF [⟨g1, 37, bs b⟩, ⟨g2, 67, recW rec0 (.slice none 0 0)⟩, ⟨g4, 77, bs (m :: q)⟩] W ∧ B0 ≤ W.heap.size)] [false, false, false, false, false, false, false, false, false, false, false, false, true] [some 0, some 0, some 0, some 0, some 0, some 0, some 0, some 0, some 0, some 0, some 0, some 0, some 0] [none, none, none, none, none, none, none, none, none, none, none, none, some 11] [some 22, some 23, some 24, some 25, some 26, some 27, some 28, some 29, some 30, some 31, some 32, some 6, none] 13 1 (fun _ => true) rfl rfl (by kernel_rfl) (by kernel_rfl) (by kernel_rfl) (by kernel_rfl) (by kernel_rfl) ?_ ?_ ?_ ?_ ?_ ?_
    · repeat first | exact wok_nil | refine wok_cons (by first | exact fun _ _ h k => ⟨h.1.same k, Nat.le_trans h.2 k.size⟩) ?_
    · repeat first | exact vok_nil | refine vok_rig (by first | exact fun _ _ _ h => h) ?_ | refine vok_soft (by first | exact fun _ _ _ h _ => h | exact fun _ _ _ h k => by obtain ⟨g, j, h1, h2, h3, h4⟩ := h; exact ⟨g, j, h1, h2.call k, h3.call k, h4⟩ | exact fun _ _ _ h k => ⟨h.choose, h.choose_spec.1, h.choose_spec.2.1.call k, h.choose_spec.2.2⟩) ?_
    · exact hF0
    · repeat first | exact all_end (by decide) | refine all_cons (by first | exact rfl | exact ⟨rfl, fun _ _ h => Or.inl h⟩ | exact ⟨rfl, fun _ _ h => Or.inr ⟨h, rfl⟩⟩) ?_
    · refine alla_old rfl (step_mild 0 rfl rfl rfl (fun a x W hout hin hP => ?_)) ?_
      · have e4 : a.tmps[4]? = some (.pointer (some ⟨g4, 0, none⟩)) := (hout 4 (by kernel_rfl)).trans rfl
        clear hin hout
        intro K Q hK
        go_simp
        exact hK _ _ ⟨Same.refl _, rfl⟩
      refine alla_old rfl (step_mild 0 rfl rfl rfl (fun a x W hout hin hP => ?_)) ?_
      · have e22 := hin.is 0 22 (by kernel_rfl) (by decide) (by kernel_rfl) (by kernel_rfl) _ rfl
        clear hin hout
        intro K Q hK
        go_simp
        exact hK _ _ ⟨Same.refl _, rfl⟩
      refine alla_old rfl (step_mild 0 rfl rfl rfl (fun a x W hout hin hP => ?_)) ?_
      · have e23 := hin.is 1 23 (by kernel_rfl) (by decide) (by kernel_rfl) (by kernel_rfl) _ rfl
        have C := long_any g4 1 29 29 77 (m :: q) W (hP.1.row 2 rfl) (by rw [HX30.out]; decide) (by decide) (Nat.le_refl _)
        rw [HL0.out] at C
        clear hP
        clear hin hout
        intro K Q hK
        go_simp
        refine C.mono ?_
        rintro e W' ⟨rfl, hb⟩
        exact hK _ _ ⟨hb, rfl⟩
      refine alla_old rfl (step_mild 0 rfl rfl rfl (fun a x W hout hin hP => ?_)) ?_
      · have e4 : a.tmps[4]? = some (.pointer (some ⟨g4, 0, none⟩)) := (hout 4 (by kernel_rfl)).trans rfl
        clear hin hout
        intro K Q hK
        go_simp
        exact hK _ _ ⟨Same.refl _, rfl⟩
      refine alla_old rfl (step_mild 0 rfl rfl rfl (fun a x W hout hin hP => ?_)) ?_
      · have e25 := hin.is 3 25 (by kernel_rfl) (by decide) (by kernel_rfl) (by kernel_rfl) _ rfl
        clear hin hout
        intro K Q hK
        go_simp
        exact hK _ _ ⟨Same.refl _, rfl⟩
      refine alla_old rfl (step_mild 0 rfl rfl rfl (fun a x W hout hin hP => ?_)) ?_
      · have e26 := hin.is 4 26 (by kernel_rfl) (by decide) (by kernel_rfl) (by kernel_rfl) _ rfl
        have C := long_any g4 5 25 25 77 (m :: q) W (hP.1.row 2 rfl) (by rw [HX30.out]; decide) (by decide) (Nat.le_refl _)
        rw [HL4.out] at C
        clear hP
        clear hin hout
        intro K Q hK
        go_simp
        refine C.mono ?_
        rintro e W' ⟨rfl, hb⟩
        exact hK _ _ ⟨hb, rfl⟩
      refine alla_old rfl (step_mild 0 rfl rfl rfl (fun a x W hout hin hP => ?_)) ?_
      · have e4 : a.tmps[4]? = some (.pointer (some ⟨g4, 0, none⟩)) := (hout 4 (by kernel_rfl)).trans rfl
        clear hin hout
        intro K Q hK
        go_simp
        exact hK _ _ ⟨Same.refl _, rfl⟩
      refine alla_old rfl (step_mild 0 rfl rfl rfl (fun a x W hout hin hP => ?_)) ?_
      · have e28 := hin.is 6 28 (by kernel_rfl) (by decide) (by kernel_rfl) (by kernel_rfl) _ rfl
        clear hin hout
        intro K Q hK
        go_simp
        exact hK _ _ ⟨Same.refl _, rfl⟩
      refine alla_old rfl (step_mild 0 rfl rfl rfl (fun a x W hout hin hP => ?_)) ?_
      · have e29 := hin.is 7 29 (by kernel_rfl) (by decide) (by kernel_rfl) (by kernel_rfl) _ rfl
        have hc : W.cell? ⟨g4, 9, none⟩ = some (.int .u8 (n : Int)) := (hP.1.row 2 rfl).get HC8.out
        clear hP
        clear hin hout
        intro K Q hK
        go_simp
        exact hK _ _ ⟨Same.refl _, rfl⟩
      refine alla_old rfl (step_mild 0 rfl rfl rfl (fun a x W hout hin hP => ?_)) ?_
      · have e30 := hin.is 8 30 (by kernel_rfl) (by decide) (by kernel_rfl) (by kernel_rfl) _ rfl
        have hbse := hP.2
        clear hin hout
        intro K Q hK
        exact wp_make_puts (.tmp 30) (.tmp 30) rfl .u8 .u8 n HN5.out (eval_of_get e30) (eval_of_get e30) (by rw [lz_0 q n]; exact hK _ _ ⟨Same.alloc _ _, W.heap.size, rfl, Row.fresh _ _ _, hbse⟩)
      refine alla_old rfl (step_mild 0 rfl rfl rfl (fun a x W hout hin hP => ?_)) ?_
      · have e24 := hin.is 2 24 (by kernel_rfl) (by decide) (by kernel_rfl) (by kernel_rfl) _ rfl
        have e27 := hin.is 5 27 (by kernel_rfl) (by decide) (by kernel_rfl) (by kernel_rfl) _ rfl
        obtain ⟨v31, e31, hv31⟩ := hin.get 9 31 (by kernel_rfl) (by decide) (by kernel_rfl) (.inr ⟨rfl, by kernel_rfl⟩)
        obtain ⟨g, hg, rP, hbP⟩ := hv31
        rw [hg] at e31
        clear hg hP
        generalize lv 0 q = n1 at *
        generalize lv 4 q = n2 at *
        clear hin hout
        intro K Q hK
        go_simp
        exact hK _ _ ⟨Same.refl _, g, rfl, rP, hbP⟩
      refine alla_old rfl (step_mild 0 rfl rfl rfl (fun a x W hout hin hP => ?_)) ?_
      · have hbse := hP.2
        have hz := zeros_rw
        clear hP
        clear hin hout
        intro K Q hK
        go_simp
        exact hK _ _ ⟨Same.alloc _ _, _, rfl, Row.fresh _ _ _, hbse⟩
      refine alla_wild 0 rfl rfl rfl (fun a x W hout hin hP => ?_) ?_
      · obtain ⟨hw11, hx11⟩ := hin 11 (by kernel_rfl) (by decide)
        have hw11 := hw11 (.inr ⟨rfl, by kernel_rfl⟩)
        have hx11 := hx11 6 (by kernel_rfl)
        obtain ⟨v32, e32, hv32⟩ := hin.get 10 32 (by kernel_rfl) (by decide) (by kernel_rfl) (.inr ⟨rfl, by kernel_rfl⟩)
        obtain ⟨g6, hg6, r6, hb6⟩ := hw11
        rw [hg6] at hx11
        obtain ⟨gP, hgP, rP, hbP⟩ := hv32
        rw [hgP] at e32
        clear hin hout
        intro K Q hK
        refine wp_store_row 67 (.tmp 6) (.tmp 32) rfl g6 (recW ⟨lv 0 q, lv 4 q, []⟩ (.slice (some ⟨gP, 0, none⟩) n n)) (eval_of_get hx11) (eval_of_get e32) 67 (recW rec0 (.slice none 0 0)) r6 (by exact info_rec) rfl (one_rw _ _ _ _) ?_
        exact hK (x 11) _ ⟨⟨hP.1.far (grown_setRow _ _ _) (Nat.le_trans HB0.out hb6) (HLT.out g6 hb6), Nat.le_trans hP.2 (grown_setRow W g6 _).size⟩, ⟨g6, gP, hg6, r6.setRow _, rP.setRow_far (row_ne rP r6 (by decide)) _, hb6, hbP⟩, al_one rfl rfl⟩
      exact all_end (by decide)
    · intro x W hP hV hal
      obtain ⟨g6, gP, h8, r6, rP, hb6, hbP⟩ := hV 12 (by decide) (.inr (by kernel_rfl))
      have h7 : x 11 = .pointer (some ⟨g6, 0, none⟩) := (hal 12 (by decide) 11 rfl).symm.trans h8
      have HS6 := hP.1.join r6 (Nat.le_trans HB0.out hb6) (HLT.out g6 hb6)
      have HS7 : St w noF [⟨g1, 37, bs b⟩, ⟨g2, 67, recW rec0 (.slice none 0 0)⟩, ⟨g4, 77, bs (m :: q)⟩, ⟨g6, 67, recW ⟨lv 0 q, lv 4 q, []⟩ (.slice (some ⟨gP, 0, none⟩) n n)⟩, ⟨gP, 43, pcs (lz q n 0)⟩] W := HS6.join rP (Nat.le_trans HB0.out hbP) (fun b hb => by
        rcases List.mem_append.1 hb with hb | hb
        · exact HLT.out gP hbP b hb
        · rw [List.mem_singleton] at hb; subst hb; exact row_ne r6 rP (by decide))
      clear hV hP hal h8 r6 rP hb6 hbP HS6
      simp only [putL, Act.put, List.setIfInBounds_toArray, List.set_cons_succ, List.set_cons_zero, h7]
      simp only [Nat.zero_add, Nat.reduceAdd]
      refine wpAnyH_done (by kernel_rfl) ?_ _
      clear h7
      have c2 : W.cell? ⟨g6, 2, none⟩ = some (.slice (some ⟨gP, 0, none⟩) n n) := (HS7.row 3 rfl).get rfl
      have HS8 := Lib.hid HS7
      clear HS7
      go_upto_region 6 with fail
      clear c2
      go_loopw [36] (fun i wr => ∃ k : Nat, k ≤ n ∧ i = .int .i64 k ∧ St w noF [⟨g1, 37, bs b⟩, ⟨g2, 67, recW rec0 (.slice none 0 0)⟩, ⟨g4, 77, bs (m :: q)⟩, ⟨g6, 67, recW ⟨lv 0 q, lv 4 q, []⟩ (.slice (some ⟨gP, 0, none⟩) n n)⟩, ⟨gP, 43, pcs (lz q n k)⟩] wr) (fun i _ => n - (intOf i).toNat)
      case atStart => exact ⟨0, by omega, rfl, HS8.out⟩
      case round =>
        clear HS8
        obtain ⟨k, hk, rfl, HS⟩ := hrel
        by_cases hlt : k < n
        · have hk0 : (0 : Int) ≤ (k : Int) := by omega
          have hk1 : (k : Int) < (n : Int) := by omega
          go_upto_region 8 with fail
          have hF0 : Wl [fun W => St w noF [⟨g1, 37, bs b⟩, ⟨g2, 67, recW rec0 (.slice none 0 0)⟩, ⟨g4, 77, bs (m :: q)⟩, ⟨g6, 67, recW ⟨lv 0 q, lv 4 q, []⟩ (.slice (some ⟨gP, 0, none⟩) n n)⟩, ⟨gP, 43, pcs (lz q n k)⟩] W, fun W => St w noF [⟨g1, 37, bs b⟩, ⟨g2, 67, recW rec0 (.slice none 0 0)⟩, ⟨g4, 77, bs (m :: q)⟩, ⟨g6, 67, recW ⟨lv 0 q, lv 4 q, []⟩ (.slice (some ⟨gP, 0, none⟩) n n)⟩, ⟨gP, 43, pcs (lz q n (k + 1))⟩] W] 0 (World.drew _) := HS.drew
          clear HS
          have HKN := Lib.hid hlt
          refine wp_region_phs [is (.pointer (some ⟨g6, 2, none⟩)), is (.slice (some ⟨gP, 0, none⟩) n n), is (.int .i64 (k : Int)), is (.int .i64 (k : Int)), is (.int .i64 (9 + (k : Int))), is (.pointer (some ⟨g4, 1, none⟩)), is (.pointer (some ⟨g4, 1 + (9 + k), none⟩)), is (.int .u8 (atK q k)), is (.int .i64 (atK q k)), is (.pointer (some ⟨gP, k * 33, none⟩)), is (.pointer (some ⟨gP, k * 33, none⟩)), anyV] [true, true, true, true, true, true, true, true, true, true, true, true] [(fun W => St w noF [⟨g1, 37, bs b⟩, ⟨g2, 67, recW rec0 (.slice none 0 0)⟩, ⟨g4, 77, bs (m :: q)⟩, ⟨g6, 67, recW ⟨lv 0 q, lv 4 q, []⟩ (.slice (some ⟨gP, 0, none⟩) n n)⟩, ⟨gP, 43, pcs (lz q n k)⟩] W), (fun W => St w noF [⟨g1, 37, bs b⟩, ⟨g2, 67, recW rec0 (.slice none 0 0)⟩, ⟨g4, 77, bs (m :: q)⟩, ⟨g6, 67, recW ⟨lv 0 q, lv 4 q, []⟩ (.slice (some ⟨gP, 0, none⟩) n n)⟩, ⟨gP, 43, pcs (lz q n (k + 1))⟩] W)] [false, false, false, false, false, false, false, false, false, false, false, true] [some 0, some 0, some 0, some 0, some 0, some 0, some 0, some 0, some 0, some 0, some 0, some 0] [some 39, some 40, some 41, some 42, some 43, some 44, some 45, some 46, some 47, some 48, some 49, none] 12 1 (fun _ => true) rfl rfl (by kernel_rfl) (by kernel_rfl) (by kernel_rfl) (by kernel_rfl) ?_ ?_ ?_ ?_ ?_ ?_
          · repeat first | exact wok_nil | refine wok_cons (by first | exact fun _ _ h k => h.same k) ?_
          · repeat first | exact vok_nil | refine vok_rig (by first | exact fun _ _ _ h => h) ?_ | refine vok_soft (by first | exact fun _ _ _ h _ => h) ?_
          · exact hF0
          · repeat first | exact all_end (by decide) | refine all_cons (by first | exact rfl | exact ⟨rfl, fun _ _ h => Or.inl h⟩ | exact ⟨rfl, fun _ _ h => Or.inr ⟨h, rfl⟩⟩) ?_
          · refine allp_mild 0 rfl rfl rfl (fun a x W hout hin hP => ?_) ?_
            · have e6 : a.tmps[6]? = some (.pointer (some ⟨g6, 0, none⟩)) := (hout 6 (by kernel_rfl)).trans rfl
              clear hin hout
              intro K Q hK
              go_simp
              exact hK _ _ ⟨Same.refl _, rfl⟩
            refine allp_mild 0 rfl rfl rfl (fun a x W hout hin hP => ?_) ?_
            · have e39 := hin.is 0 39 (by kernel_rfl) (by decide) (by kernel_rfl) (by kernel_rfl) _ rfl
              have hc : W.cell? ⟨g6, 2, none⟩ = some (.slice (some ⟨gP, 0, none⟩) n n) := (hP.row 3 rfl).get rfl
              clear hP
              clear hin hout
              intro K Q hK
              go_simp
              exact hK _ _ ⟨Same.refl _, rfl⟩
            refine allp_mild 0 rfl rfl rfl (fun a x W hout hin hP => ?_) ?_
            · have e7 : a.tmps[7]? = some (.int .i64 (k : Int)) := (hout 7 (by kernel_rfl)).trans rfl
              exact does_move rfl e7 ⟨Same.refl _, rfl⟩
            refine allp_mild 0 rfl rfl rfl (fun a x W hout hin hP => ?_) ?_
            · have e7 : a.tmps[7]? = some (.int .i64 (k : Int)) := (hout 7 (by kernel_rfl)).trans rfl
              exact does_move rfl e7 ⟨Same.refl _, rfl⟩
            refine allp_mild 0 rfl rfl rfl (fun a x W hout hin hP => ?_) ?_
            · have e42 := hin.is 3 42 (by kernel_rfl) (by decide) (by kernel_rfl) (by kernel_rfl) _ rfl
              have e9 : IntKind.i64.wrap (9 + (k : Int)) = 9 + (k : Int) := i64_id _ (by omega) (by have := HN5.out; omega)
              clear hin hout
              intro K Q hK
              go_simp
              exact hK _ _ ⟨Same.refl _, rfl⟩
            refine allp_mild 0 rfl rfl rfl (fun a x W hout hin hP => ?_) ?_
            · have e4 : a.tmps[4]? = some (.pointer (some ⟨g4, 0, none⟩)) := (hout 4 (by kernel_rfl)).trans rfl
              clear hin hout
              intro K Q hK
              go_simp
              exact hK _ _ ⟨Same.refl _, rfl⟩
            refine allp_mild 0 rfl rfl rfl (fun a x W hout hin hP => ?_) ?_
            · have e44 := hin.is 5 44 (by kernel_rfl) (by decide) (by kernel_rfl) (by kernel_rfl) _ rfl
              have e43 := hin.is 4 43 (by kernel_rfl) (by decide) (by kernel_rfl) (by kernel_rfl) _ rfl
              have hi1 : (9 : Int) + (k : Int) < 29 := by have := HN5.out; omega
              have hi0 : (0 : Int) ≤ 9 + (k : Int) := by omega
              have hi3 : ((9 : Int) + (k : Int)).toNat = 9 + k := by omega
              clear hin hout
              intro K Q hK
              go_simp
              exact hK _ _ ⟨Same.refl _, rfl⟩
            refine allp_mild 0 rfl rfl rfl (fun a x W hout hin hP => ?_) ?_
            · have e45 := hin.is 6 45 (by kernel_rfl) (by decide) (by kernel_rfl) (by kernel_rfl) _ rfl
              have hc : W.cell? ⟨g4, 1 + (9 + k), none⟩ = some (.int .u8 (atK q k)) := (hP.row 2 rfl).get (HCK.out k (by have := HN5.out; omega))
              clear hP
              clear hin hout
              intro K Q hK
              go_simp
              exact hK _ _ ⟨Same.refl _, rfl⟩
            refine allp_mild 0 rfl rfl rfl (fun a x W hout hin hP => ?_) ?_
            · have e46 := hin.is 7 46 (by kernel_rfl) (by decide) (by kernel_rfl) (by kernel_rfl) _ rfl
              have hcv : IntKind.i64.wrap (atK q k) = atK q k := i64_id _ (atK_b q k).1 (by have := (atK_b q k).2; omega)
              clear hin hout
              intro K Q hK
              go_simp
              exact hK _ _ ⟨Same.refl _, rfl⟩
            refine allp_mild 0 rfl rfl rfl (fun a x W hout hin hP => ?_) ?_
            · have e40 := hin.is 1 40 (by kernel_rfl) (by decide) (by kernel_rfl) (by kernel_rfl) _ rfl
              have e41 := hin.is 2 41 (by kernel_rfl) (by decide) (by kernel_rfl) (by kernel_rfl) _ rfl
              clear hin hout
              intro K Q hK
              go_simp
              exact hK _ _ ⟨Same.refl _, rfl⟩
            refine allp_mild 0 rfl rfl rfl (fun a x W hout hin hP => ?_) ?_
            · have e48 := hin.is 9 48 (by kernel_rfl) (by decide) (by kernel_rfl) (by kernel_rfl) _ rfl
              clear hin hout
              intro K Q hK
              go_simp
              exact hK _ _ ⟨Same.refl _, rfl⟩
            refine allp_wild 0 rfl rfl rfl (fun a x W hout hin hP => ?_) ?_
            · have e49 := hin.is 10 49 (by kernel_rfl) (by decide) (by kernel_rfl) (by kernel_rfl) _ rfl
              have e47 := hin.is 8 47 (by kernel_rfl) (by decide) (by kernel_rfl) (by kernel_rfl) _ rfl
              clear hin hout
              intro K Q hK
              exact wp_st_put hP 4 (k * 33) 3 (.tmp 49) (.tmp 47) rfl rfl (eval_of_get e49) (.int .i64 (atK q k)) (eval_of_get e47) (by kernel_rfl) rfl rfl (by rw [size_pcs (lz_32 q n k), lz_len]; have := HKN.out; omega) (pcs (lz q n (k + 1))) (by rw [pcs_at (lz_32 q n k) (lz_at q n k HKN.out) (atK q k), lz_set q n k HKN.out]) (fun W' HSx => hK _ _ ⟨HSx, trivial⟩)
            exact all_end (by decide)
          · intro x W hP hV
            have HS9 := Lib.hid (show St w noF [⟨g1, 37, bs b⟩, ⟨g2, 67, recW rec0 (.slice none 0 0)⟩, ⟨g4, 77, bs (m :: q)⟩, ⟨g6, 67, recW ⟨lv 0 q, lv 4 q, []⟩ (.slice (some ⟨gP, 0, none⟩) n n)⟩, ⟨gP, 43, pcs (lz q n (k + 1))⟩] W from hP)
            clear hP hV
            simp only [putL, Act.put, List.setIfInBounds_toArray, List.set_cons_succ, List.set_cons_zero]
            refine wpAnyH_done (by kernel_rfl) ?_ _
            go_wp2_with fail
            exact ⟨⟨k + 1, by omega, by go_num, HS9.out⟩, by simp [intOf] <;> omega⟩
        · obtain rfl : k = n := by omega
          have hq : decide ((k : Int) < (k : Int)) = false := decide_eq_false (by omega)
          clear hlt
          go_upto_region 10 with fail
          clear hq
          have HPA : Hid (∀ W, St w noF [⟨g1, 37, bs b⟩, ⟨g2, 67, recW rec0 (.slice none 0 0)⟩, ⟨g4, 77, bs (m :: q)⟩, ⟨g6, 67, recW ⟨lv 0 q, lv 4 q, []⟩ (.slice (some ⟨gP, 0, none⟩) k k)⟩, ⟨gP, 43, pcs (lz q k k)⟩] W → PutsAt W (.slice (some ⟨gP, 0, none⟩) k k) (lz q k k)) := Lib.hid (fun W h => by
            have := puts_pcs (c := k) (h.row 4 rfl) (by rw [lz_len]; exact Nat.le_refl _) (fun x hx => ⟨lz_32 q k k x hx, by
              obtain ⟨i, _, rfl⟩ := List.mem_map.1 hx
              have := atK_b q i
              dsimp only
              split <;> omega⟩)
            rwa [lz_len] at this)
          have HF : Hid ((lz q k k).map (·.1) = atsOf b) := Lib.hid (by rw [lz_fst, HAT.out])
          cases hg : goodB (atsOf b) with
          | false =>
            have HNO : Hid (isHead b = false) := Lib.hid (by rw [← HHE.out, hg]; rfl)
            have HG := Lib.hid hg
            have hF0 : Wl [fun W => St w noF [⟨g1, 37, bs b⟩, ⟨g2, 67, recW rec0 (.slice none 0 0)⟩, ⟨g4, 77, bs (m :: q)⟩, ⟨g6, 67, recW ⟨lv 0 q, lv 4 q, []⟩ (.slice (some ⟨gP, 0, none⟩) k k)⟩, ⟨gP, 43, pcs (lz q k k)⟩] W] 0 (World.drew _) := HS.drew
            clear HS hg
            refine wp_region_phs [is (.pointer (some ⟨g6, 2, none⟩)), is (.slice (some ⟨gP, 0, none⟩) k k), is (.bool false), is (.bool true), is (.bool true), is undef, is undef, is undef, is undef, is (.bool true)] [true, true, true, true, true, true, true, true, true, true] [(fun W => St w noF [⟨g1, 37, bs b⟩, ⟨g2, 67, recW rec0 (.slice none 0 0)⟩, ⟨g4, 77, bs (m :: q)⟩, ⟨g6, 67, recW ⟨lv 0 q, lv 4 q, []⟩ (.slice (some ⟨gP, 0, none⟩) k k)⟩, ⟨gP, 43, pcs (lz q k k)⟩] W)] [false, false, false, false, false, false, false, false, false, false] [some 0, some 0, some 0, some 0, some 0, some 0, some 0, some 0, some 0, some 0] [some 51, some 52, some 53, some 54, some 55, some 56, some 57, some 58, some 59, some 60] 10 0 (fun i => !([5, 6, 7, 8] : List Nat).contains i) rfl rfl (by kernel_rfl) (by kernel_rfl) (by kernel_rfl) (by kernel_rfl) ?_ ?_ ?_ ?_ ?_ ?_
            · repeat first | exact wok_nil | refine wok_cons (by first | exact fun _ _ h k => h.same k) ?_
            · repeat first | exact vok_nil | refine vok_rig (by first | exact fun _ _ _ h => h) ?_ | refine vok_soft (by first | exact fun _ _ _ h _ => h) ?_
            · exact hF0
            · repeat first | exact all_end (by decide) | refine all_cons (by first | exact rfl | exact ⟨rfl, fun _ _ h => Or.inl h⟩ | exact ⟨rfl, fun _ _ h => Or.inr ⟨h, rfl⟩⟩) ?_
            · refine allp_mild 0 rfl rfl rfl (fun a x W hout hin hP => ?_) ?_
              · have e6 : a.tmps[6]? = some (.pointer (some ⟨g6, 0, none⟩)) := (hout 6 (by kernel_rfl)).trans rfl
                clear hin hout
                intro K Q hK
                go_simp
                exact hK _ _ ⟨Same.refl _, rfl⟩
              refine allp_mild 0 rfl rfl rfl (fun a x W hout hin hP => ?_) ?_
              · have e51 := hin.is 0 51 (by kernel_rfl) (by decide) (by kernel_rfl) (by kernel_rfl) _ rfl
                have hc : W.cell? ⟨g6, 2, none⟩ = some (.slice (some ⟨gP, 0, none⟩) k k) := (hP.row 3 rfl).get rfl
                clear hP
                clear hin hout
                intro K Q hK
                go_simp
                exact hK _ _ ⟨Same.refl _, rfl⟩
              refine allp_mild 0 rfl rfl rfl (fun a x W hout hin hP => ?_) ?_
              · have e52 := hin.is 1 52 (by kernel_rfl) (by decide) (by kernel_rfl) (by kernel_rfl) _ rfl
                have C := walgood_any (lz q k k) _ W (HPA.out W hP) (by rw [lz_len]; have := HN5.out; unfold maxLen; omega)
                rw [HF.out, HG.out] at C
                clear hP
                clear hin hout
                intro K Q hK
                go_simp
                refine C.mono ?_
                rintro e W' ⟨rfl, hb⟩
                exact hK _ _ ⟨hb, rfl⟩
              refine allp_mild 0 rfl rfl rfl (fun a x W hout hin hP => ?_) ?_
              · have e53 := hin.is 2 53 (by kernel_rfl) (by decide) (by kernel_rfl) (by kernel_rfl) _ rfl
                exact does_not rfl e53 ⟨Same.refl _, rfl⟩
              refine allp_mild 0 rfl rfl rfl (fun a x W hout hin hP => ?_) ?_
              · have e54 := hin.is 3 54 (by kernel_rfl) (by decide) (by kernel_rfl) (by kernel_rfl) _ rfl
                exact does_move rfl e54 ⟨Same.refl _, rfl⟩
              refine allp_skip rfl rfl (fun _ => rfl) ?_
              refine allp_skip rfl rfl (fun _ => rfl) ?_
              refine allp_skip rfl rfl (fun _ => rfl) ?_
              refine allp_skip rfl rfl (fun _ => rfl) ?_
              refine allp_mild 0 rfl rfl rfl (fun a x W hout hin hP => ?_) ?_
              · have e55 := hin.is 4 55 (by kernel_rfl) (by decide) (by kernel_rfl) (by kernel_rfl) _ rfl
                have e59 := hin.is 8 59 (by kernel_rfl) (by decide) (by kernel_rfl) (by kernel_rfl) _ rfl
                exact does_pick rfl e55 ⟨Same.refl _, rfl⟩
              exact all_end (by decide)
            · intro x W hP hV
              have HS : St w noF [⟨g1, 37, bs b⟩, ⟨g2, 67, recW rec0 (.slice none 0 0)⟩, ⟨g4, 77, bs (m :: q)⟩, ⟨g6, 67, recW ⟨lv 0 q, lv 4 q, []⟩ (.slice (some ⟨gP, 0, none⟩) k k)⟩, ⟨gP, 43, pcs (lz q k k)⟩] W := hP
              have hlast : x 9 = .bool true := hV 9 (by decide) (.inl (by kernel_rfl))
              clear hP hV
              simp only [putL, Act.put, List.setIfInBounds_toArray, List.set_cons_succ, List.set_cons_zero, hlast]
              refine wpAnyH_done (by kernel_rfl) ?_ _
              clear hlast
              go_wp2_with (first | ((with_reducible refine wpList_plain ?_ ?_); exact rfl; intro KK hKK; refine wp_st_store HS 1 0 67 (.tmp 2) (.tmp 61) rfl rfl rfl (.agg #[.int .u32 0, .int .u32 0, .slice none 0 0]) rfl (by exact info_rec) (by exact Nat.le_refl 3) (by exact one_rw rec0 none 0 0) (recW rec0 (.slice none 0 0)) (spl_agg _ _ _ zeros_rw rfl) (fun W61 HSx => hKK _ _ ?_); clear hKK KK HS; have HS : St w noF [⟨g1, 37, bs b⟩, ⟨g2, 67, recW rec0 (.slice none 0 0)⟩, ⟨g4, 77, bs (m :: q)⟩, ⟨g6, 67, recW ⟨lv 0 q, lv 4 q, []⟩ (.slice (some ⟨gP, 0, none⟩) k k)⟩, ⟨gP, 43, pcs (lz q k k)⟩] W61 := HSx; clear HSx))
              exact bodyPost_ret (v := .tuple #[.agg (recW rec0 (.slice none 0 0)), .int .i64 11]) (results_cell_tmp Try.results49 _ _ g2 67 (recW rec0 (.slice none 0 0)) (0, 0) _ rfl (HS.row 1 rfl) Try.underlying67 rfl (by exact info_rec)) rfl (headtold_no HNO.out HS.below)
          | true =>
            have HG := Lib.hid hg
            obtain ⟨H, hH⟩ : ∃ H, headB (lv 0 q) (lv 4 q) (atsOf b) = H := ⟨_, rfl⟩
            have HHL : Hid (H.length = 32) := Lib.hid (by rw [← hH]; exact length_headB (by rw [← HF.out, List.length_map, lz_len]; exact HN5.out))
            have HHE2 : Hid (decide (H = b) = isHead b) := Lib.hid (by rw [← HHE.out, hg, Bool.true_and, hH])
            have HCH : Hid (∀ W, St w noF [⟨g1, 37, bs b⟩, ⟨g2, 67, recW rec0 (.slice none 0 0)⟩, ⟨g4, 77, bs (m :: q)⟩, ⟨g6, 67, recW ⟨lv 0 q, lv 4 q, []⟩ (.slice (some ⟨gP, 0, none⟩) k k)⟩, ⟨gP, 43, pcs (lz q k k)⟩] W → Calls Try.prog 62 #[.agg (recW ⟨lv 0 q, lv 4 q, []⟩ (.slice (some ⟨gP, 0, none⟩) k k))] W fun e w' => e = .returned (.agg (bs H)) ∧ Below W.heap.size W w') := Lib.hid (fun W h => by
              have := header_any (lv 0 q) (lv 4 q) (some ⟨gP, 0, none⟩) k (lz q k k) W (by rw [lz_len]; exact HPA.out W h) (by rw [lz_len]; exact HN5.out)
              rw [HF.out, hH, lz_len] at this
              exact this)
            clear hH hg
            by_cases hHb : H = b
            case neg =>
              have HNO : Hid (isHead b = false) := Lib.hid (by rw [← HHE2.out, decide_eq_false hHb])
              have HHB := Lib.hid hHb
              have hF0 : Wl [fun W => St w noF [⟨g1, 37, bs b⟩, ⟨g2, 67, recW rec0 (.slice none 0 0)⟩, ⟨g4, 77, bs (m :: q)⟩, ⟨g6, 67, recW ⟨lv 0 q, lv 4 q, []⟩ (.slice (some ⟨gP, 0, none⟩) k k)⟩, ⟨gP, 43, pcs (lz q k k)⟩] W] 0 (World.drew _) := HS.drew
              clear HS hHb
              refine wp_region_phs [is (.pointer (some ⟨g6, 2, none⟩)), is (.slice (some ⟨gP, 0, none⟩) k k), is (.bool true), is (.bool false), is (.bool false), is (.agg (recW ⟨lv 0 q, lv 4 q, []⟩ (.slice (some ⟨gP, 0, none⟩) k k))), is (.agg (bs H)), is (.agg (bs b)), is (.bool true), is (.bool true)] [true, true, true, true, true, true, true, true, true, true] [(fun W => St w noF [⟨g1, 37, bs b⟩, ⟨g2, 67, recW rec0 (.slice none 0 0)⟩, ⟨g4, 77, bs (m :: q)⟩, ⟨g6, 67, recW ⟨lv 0 q, lv 4 q, []⟩ (.slice (some ⟨gP, 0, none⟩) k k)⟩, ⟨gP, 43, pcs (lz q k k)⟩] W)] [false, false, false, false, false, false, false, false, false, false] [some 0, some 0, some 0, some 0, some 0, some 0, some 0, some 0, some 0, some 0] [some 51, some 52, some 53, some 54, some 55, some 56, some 57, some 58, some 59, some 60] 10 0 (fun _ => true) rfl rfl (by kernel_rfl) (by kernel_rfl) (by kernel_rfl) (by kernel_rfl) ?_ ?_ ?_ ?_ ?_ ?_
              · repeat first | exact wok_nil | refine wok_cons (by first | exact fun _ _ h k => h.same k) ?_
              · repeat first | exact vok_nil | refine vok_rig (by first | exact fun _ _ _ h => h) ?_ | refine vok_soft (by first | exact fun _ _ _ h _ => h) ?_
              · exact hF0
              · repeat first | exact all_end (by decide) | refine all_cons (by first | exact rfl | exact ⟨rfl, fun _ _ h => Or.inl h⟩ | exact ⟨rfl, fun _ _ h => Or.inr ⟨h, rfl⟩⟩) ?_
              · refine allp_mild 0 rfl rfl rfl (fun a x W hout hin hP => ?_) ?_
                · have e6 : a.tmps[6]? = some (.pointer (some ⟨g6, 0, none⟩)) := (hout 6 (by kernel_rfl)).trans rfl
                  clear hin hout
                  intro K Q hK
                  go_simp
                  exact hK _ _ ⟨Same.refl _, rfl⟩
                refine allp_mild 0 rfl rfl rfl (fun a x W hout hin hP => ?_) ?_
                · have e51 := hin.is 0 51 (by kernel_rfl) (by decide) (by kernel_rfl) (by kernel_rfl) _ rfl
                  have hc : W.cell? ⟨g6, 2, none⟩ = some (.slice (some ⟨gP, 0, none⟩) k k) := (hP.row 3 rfl).get rfl
                  clear hP
                  clear hin hout
                  intro K Q hK
                  go_simp
                  exact hK _ _ ⟨Same.refl _, rfl⟩
                refine allp_mild 0 rfl rfl rfl (fun a x W hout hin hP => ?_) ?_
                · have e52 := hin.is 1 52 (by kernel_rfl) (by decide) (by kernel_rfl) (by kernel_rfl) _ rfl
                  have C := walgood_any (lz q k k) _ W (HPA.out W hP) (by rw [lz_len]; have := HN5.out; unfold maxLen; omega)
                  rw [HF.out, HG.out] at C
                  clear hP
                  clear hin hout
                  intro K Q hK
                  go_simp
                  refine C.mono ?_
                  rintro e W' ⟨rfl, hb⟩
                  exact hK _ _ ⟨hb, rfl⟩
                refine allp_mild 0 rfl rfl rfl (fun a x W hout hin hP => ?_) ?_
                · have e53 := hin.is 2 53 (by kernel_rfl) (by decide) (by kernel_rfl) (by kernel_rfl) _ rfl
                  exact does_not rfl e53 ⟨Same.refl _, rfl⟩
                refine allp_mild 0 rfl rfl rfl (fun a x W hout hin hP => ?_) ?_
                · have e54 := hin.is 3 54 (by kernel_rfl) (by decide) (by kernel_rfl) (by kernel_rfl) _ rfl
                  exact does_move rfl e54 ⟨Same.refl _, rfl⟩
                refine allp_mild 0 rfl rfl rfl (fun a x W hout hin hP => ?_) ?_
                · have e6 : a.tmps[6]? = some (.pointer (some ⟨g6, 0, none⟩)) := (hout 6 (by kernel_rfl)).trans rfl
                  clear hin hout
                  intro K Q hK
                  exact wp_st_load hP 3 0 67 (.tmp 6) rfl rfl (eval_of_get e6) (recW ⟨lv 0 q, lv 4 q, []⟩ (.slice (some ⟨gP, 0, none⟩) k k)) (slab_whole _) _ Try.underlying67 rfl (by exact info_rec) (hK _ _ ⟨Same.refl _, rfl⟩)
                refine allp_mild 0 rfl rfl rfl (fun a x W hout hin hP => ?_) ?_
                · have e56 := hin.is 5 56 (by kernel_rfl) (by decide) (by kernel_rfl) (by kernel_rfl) _ rfl
                  have C := HCH.out W hP
                  clear hP
                  clear hin hout
                  intro K Q hK
                  go_simp
                  refine C.mono ?_
                  rintro e W' ⟨rfl, hb⟩
                  exact hK _ _ ⟨hb, rfl⟩
                refine allp_mild 0 rfl rfl rfl (fun a x W hout hin hP => ?_) ?_
                · have e1 : a.tmps[1]? = some (.pointer (some ⟨g1, 0, none⟩)) := (hout 1 (by kernel_rfl)).trans rfl
                  clear hin hout
                  intro K Q hK
                  exact wp_st_load hP 0 0 37 (.tmp 1) rfl rfl (eval_of_get e1) (bs b) (slab_whole _) _ Try.underlying37 rfl (size_b32 HBL.out) (hK _ _ ⟨Same.refl _, rfl⟩)
                refine allp_mild 0 rfl rfl rfl (fun a x W hout hin hP => ?_) ?_
                · have e57 := hin.is 6 57 (by kernel_rfl) (by decide) (by kernel_rfl) (by kernel_rfl) _ rfl
                  have e58 := hin.is 7 58 (by kernel_rfl) (by decide) (by kernel_rfl) (by kernel_rfl) _ rfl
                  have qq := eql_blk H b HHL.out HBL.out W
                  rw [decide_eq_false HHB.out] at qq
                  clear hP
                  clear hin hout
                  intro K Q hK
                  go_simp
                  exact hK _ _ ⟨Same.refl _, rfl⟩
                refine allp_mild 0 rfl rfl rfl (fun a x W hout hin hP => ?_) ?_
                · have e55 := hin.is 4 55 (by kernel_rfl) (by decide) (by kernel_rfl) (by kernel_rfl) _ rfl
                  have e59 := hin.is 8 59 (by kernel_rfl) (by decide) (by kernel_rfl) (by kernel_rfl) _ rfl
                  exact does_pick rfl e55 ⟨Same.refl _, eval_of_get e59⟩
                exact all_end (by decide)
              · intro x W hP hV
                have HS : St w noF [⟨g1, 37, bs b⟩, ⟨g2, 67, recW rec0 (.slice none 0 0)⟩, ⟨g4, 77, bs (m :: q)⟩, ⟨g6, 67, recW ⟨lv 0 q, lv 4 q, []⟩ (.slice (some ⟨gP, 0, none⟩) k k)⟩, ⟨gP, 43, pcs (lz q k k)⟩] W := hP
                have hlast : x 9 = .bool true := hV 9 (by decide) (.inl (by kernel_rfl))
                clear hP hV
                simp only [putL, Act.put, List.setIfInBounds_toArray, List.set_cons_succ, List.set_cons_zero, hlast]
                refine wpAnyH_done (by kernel_rfl) ?_ _
                clear hlast
                go_wp2_with (first | ((with_reducible refine wpList_plain ?_ ?_); exact rfl; intro KK hKK; refine wp_st_store HS 1 0 67 (.tmp 2) (.tmp 61) rfl rfl rfl (.agg #[.int .u32 0, .int .u32 0, .slice none 0 0]) rfl (by exact info_rec) (by exact Nat.le_refl 3) (by exact one_rw rec0 none 0 0) (recW rec0 (.slice none 0 0)) (spl_agg _ _ _ zeros_rw rfl) (fun W61 HSx => hKK _ _ ?_); clear hKK KK HS; have HS : St w noF [⟨g1, 37, bs b⟩, ⟨g2, 67, recW rec0 (.slice none 0 0)⟩, ⟨g4, 77, bs (m :: q)⟩, ⟨g6, 67, recW ⟨lv 0 q, lv 4 q, []⟩ (.slice (some ⟨gP, 0, none⟩) k k)⟩, ⟨gP, 43, pcs (lz q k k)⟩] W61 := HSx; clear HSx))
                exact bodyPost_ret (v := .tuple #[.agg (recW rec0 (.slice none 0 0)), .int .i64 11]) (results_cell_tmp Try.results49 _ _ g2 67 (recW rec0 (.slice none 0 0)) (0, 0) _ rfl (HS.row 1 rfl) Try.underlying67 rfl (by exact info_rec)) rfl (headtold_no HNO.out HS.below)
            case pos =>
              have HYES : Hid (isHead b = true) := Lib.hid (by rw [← HHE2.out, decide_eq_true hHb])
              have HHB := Lib.hid hHb
              have hF0 : Wl [fun W => St w noF [⟨g1, 37, bs b⟩, ⟨g2, 67, recW rec0 (.slice none 0 0)⟩, ⟨g4, 77, bs (m :: q)⟩, ⟨g6, 67, recW ⟨lv 0 q, lv 4 q, []⟩ (.slice (some ⟨gP, 0, none⟩) k k)⟩, ⟨gP, 43, pcs (lz q k k)⟩] W] 0 (World.drew _) := HS.drew
              clear HS hHb
              refine wp_region_phs [is (.pointer (some ⟨g6, 2, none⟩)), is (.slice (some ⟨gP, 0, none⟩) k k), is (.bool true), is (.bool false), is (.bool false), is (.agg (recW ⟨lv 0 q, lv 4 q, []⟩ (.slice (some ⟨gP, 0, none⟩) k k))), is (.agg (bs H)), is (.agg (bs b)), is (.bool false), is (.bool false)] [true, true, true, true, true, true, true, true, true, true] [(fun W => St w noF [⟨g1, 37, bs b⟩, ⟨g2, 67, recW rec0 (.slice none 0 0)⟩, ⟨g4, 77, bs (m :: q)⟩, ⟨g6, 67, recW ⟨lv 0 q, lv 4 q, []⟩ (.slice (some ⟨gP, 0, none⟩) k k)⟩, ⟨gP, 43, pcs (lz q k k)⟩] W)] [false, false, false, false, false, false, false, false, false, false] [some 0, some 0, some 0, some 0, some 0, some 0, some 0, some 0, some 0, some 0] [some 51, some 52, some 53, some 54, some 55, some 56, some 57, some 58, some 59, some 60] 10 0 (fun _ => true) rfl rfl (by kernel_rfl) (by kernel_rfl) (by kernel_rfl) (by kernel_rfl) ?_ ?_ ?_ ?_ ?_ ?_
              · repeat first | exact wok_nil | refine wok_cons (by first | exact fun _ _ h k => h.same k) ?_
              · repeat first | exact vok_nil | refine vok_rig (by first | exact fun _ _ _ h => h) ?_ | refine vok_soft (by first | exact fun _ _ _ h _ => h) ?_
              · exact hF0
              · repeat first | exact all_end (by decide) | refine all_cons (by first | exact rfl | exact ⟨rfl, fun _ _ h => Or.inl h⟩ | exact ⟨rfl, fun _ _ h => Or.inr ⟨h, rfl⟩⟩) ?_
              · refine allp_mild 0 rfl rfl rfl (fun a x W hout hin hP => ?_) ?_
                · have e6 : a.tmps[6]? = some (.pointer (some ⟨g6, 0, none⟩)) := (hout 6 (by kernel_rfl)).trans rfl
                  clear hin hout
                  intro K Q hK
                  go_simp
                  exact hK _ _ ⟨Same.refl _, rfl⟩
                refine allp_mild 0 rfl rfl rfl (fun a x W hout hin hP => ?_) ?_
                · have e51 := hin.is 0 51 (by kernel_rfl) (by decide) (by kernel_rfl) (by kernel_rfl) _ rfl
                  have hc : W.cell? ⟨g6, 2, none⟩ = some (.slice (some ⟨gP, 0, none⟩) k k) := (hP.row 3 rfl).get rfl
                  clear hP
                  clear hin hout
                  intro K Q hK
                  go_simp
                  exact hK _ _ ⟨Same.refl _, rfl⟩
                refine allp_mild 0 rfl rfl rfl (fun a x W hout hin hP => ?_) ?_
                · have e52 := hin.is 1 52 (by kernel_rfl) (by decide) (by kernel_rfl) (by kernel_rfl) _ rfl
                  have C := walgood_any (lz q k k) _ W (HPA.out W hP) (by rw [lz_len]; have := HN5.out; unfold maxLen; omega)
                  rw [HF.out, HG.out] at C
                  clear hP
                  clear hin hout
                  intro K Q hK
                  go_simp
                  refine C.mono ?_
                  rintro e W' ⟨rfl, hb⟩
                  exact hK _ _ ⟨hb, rfl⟩
                refine allp_mild 0 rfl rfl rfl (fun a x W hout hin hP => ?_) ?_
                · have e53 := hin.is 2 53 (by kernel_rfl) (by decide) (by kernel_rfl) (by kernel_rfl) _ rfl
                  exact does_not rfl e53 ⟨Same.refl _, rfl⟩
                refine allp_mild 0 rfl rfl rfl (fun a x W hout hin hP => ?_) ?_
                · have e54 := hin.is 3 54 (by kernel_rfl) (by decide) (by kernel_rfl) (by kernel_rfl) _ rfl
                  exact does_move rfl e54 ⟨Same.refl _, rfl⟩
                refine allp_mild 0 rfl rfl rfl (fun a x W hout hin hP => ?_) ?_
                · have e6 : a.tmps[6]? = some (.pointer (some ⟨g6, 0, none⟩)) := (hout 6 (by kernel_rfl)).trans rfl
                  clear hin hout
                  intro K Q hK
                  exact wp_st_load hP 3 0 67 (.tmp 6) rfl rfl (eval_of_get e6) (recW ⟨lv 0 q, lv 4 q, []⟩ (.slice (some ⟨gP, 0, none⟩) k k)) (slab_whole _) _ Try.underlying67 rfl (by exact info_rec) (hK _ _ ⟨Same.refl _, rfl⟩)
                refine allp_mild 0 rfl rfl rfl (fun a x W hout hin hP => ?_) ?_
                · have e56 := hin.is 5 56 (by kernel_rfl) (by decide) (by kernel_rfl) (by kernel_rfl) _ rfl
                  have C := HCH.out W hP
                  clear hP
                  clear hin hout
                  intro K Q hK
                  go_simp
                  refine C.mono ?_
                  rintro e W' ⟨rfl, hb⟩
                  exact hK _ _ ⟨hb, rfl⟩
                refine allp_mild 0 rfl rfl rfl (fun a x W hout hin hP => ?_) ?_
                · have e1 : a.tmps[1]? = some (.pointer (some ⟨g1, 0, none⟩)) := (hout 1 (by kernel_rfl)).trans rfl
                  clear hin hout
                  intro K Q hK
                  exact wp_st_load hP 0 0 37 (.tmp 1) rfl rfl (eval_of_get e1) (bs b) (slab_whole _) _ Try.underlying37 rfl (size_b32 HBL.out) (hK _ _ ⟨Same.refl _, rfl⟩)
                refine allp_mild 0 rfl rfl rfl (fun a x W hout hin hP => ?_) ?_
                · have e57 := hin.is 6 57 (by kernel_rfl) (by decide) (by kernel_rfl) (by kernel_rfl) _ rfl
                  have e58 := hin.is 7 58 (by kernel_rfl) (by decide) (by kernel_rfl) (by kernel_rfl) _ rfl
                  have qq := eql_blk H b HHL.out HBL.out W
                  rw [decide_eq_true HHB.out] at qq
                  clear hP
                  clear hin hout
                  intro K Q hK
                  go_simp
                  exact hK _ _ ⟨Same.refl _, rfl⟩
                refine allp_mild 0 rfl rfl rfl (fun a x W hout hin hP => ?_) ?_
                · have e55 := hin.is 4 55 (by kernel_rfl) (by decide) (by kernel_rfl) (by kernel_rfl) _ rfl
                  have e59 := hin.is 8 59 (by kernel_rfl) (by decide) (by kernel_rfl) (by kernel_rfl) _ rfl
                  exact does_pick rfl e55 ⟨Same.refl _, eval_of_get e59⟩
                exact all_end (by decide)
              · intro x W hP hV
                have HS : St w noF [⟨g1, 37, bs b⟩, ⟨g2, 67, recW rec0 (.slice none 0 0)⟩, ⟨g4, 77, bs (m :: q)⟩, ⟨g6, 67, recW ⟨lv 0 q, lv 4 q, []⟩ (.slice (some ⟨gP, 0, none⟩) k k)⟩, ⟨gP, 43, pcs (lz q k k)⟩] W := hP
                have hlast : x 9 = .bool false := hV 9 (by decide) (.inl (by kernel_rfl))
                clear hP hV
                simp only [putL, Act.put, List.setIfInBounds_toArray, List.set_cons_succ, List.set_cons_zero, hlast]
                refine wpAnyH_done (by kernel_rfl) ?_ _
                clear hlast
                go_wp2_with (first | ((with_reducible refine wpList_plain ?_ ?_); exact rfl; intro KK hKK; refine wp_st_load HS 3 0 67 (.tmp 6) rfl rfl rfl (recW ⟨lv 0 q, lv 4 q, []⟩ (.slice (some ⟨gP, 0, none⟩) k k)) (slab_whole _) _ Try.underlying67 rfl (by exact info_rec) (hKK _ _ ?_); clear hKK KK) | ((with_reducible refine wpList_plain ?_ ?_); exact rfl; intro KK hKK; refine wp_st_store HS 1 0 67 (.tmp 2) (.tmp 62) rfl rfl rfl (.agg (recW ⟨lv 0 q, lv 4 q, []⟩ (.slice (some ⟨gP, 0, none⟩) k k))) rfl (by exact info_rec) (by exact Nat.le_refl 3) (by exact one_rw _ _ _ _) (recW ⟨lv 0 q, lv 4 q, []⟩ (.slice (some ⟨gP, 0, none⟩) k k)) (spl_agg _ _ _ (rfl) rfl) (fun W61 HSx => hKK _ _ ?_); clear hKK KK HS; have HS : St w noF [⟨g1, 37, bs b⟩, ⟨g2, 67, recW ⟨lv 0 q, lv 4 q, []⟩ (.slice (some ⟨gP, 0, none⟩) k k)⟩, ⟨g4, 77, bs (m :: q)⟩, ⟨g6, 67, recW ⟨lv 0 q, lv 4 q, []⟩ (.slice (some ⟨gP, 0, none⟩) k k)⟩, ⟨gP, 43, pcs (lz q k k)⟩] W61 := HSx; clear HSx))
                exact bodyPost_ret (v := .tuple #[.agg (recW ⟨lv 0 q, lv 4 q, []⟩ (.slice (some ⟨gP, 0, none⟩) k k)), .int .i64 0]) (results_cell_tmp Try.results49 _ _ g2 67 (recW ⟨lv 0 q, lv 4 q, []⟩ (.slice (some ⟨gP, 0, none⟩) k k)) (0, 0) _ rfl (HS.row 1 rfl) Try.underlying67 rfl (by exact info_rec)) rfl (by unfold HeadTold; rw [if_pos HYES.out]; exact ⟨gP, by rw [HNUM.out.1, HNUM.out.2.1, HNUM.out.2.2], by rw [← HAT.out, ← lz_all]; exact HS.row 4 rfl, (HS.own 4 _ rfl).elim (fun h => h.elim) id, HS.below⟩)
end Go.Proofs.Ytbdpocbnkgckhaa

/- The program's wal: Get; what the statements need to know of it. -/
set_option maxRecDepth 4000
namespace Go.Proofs.Ytbdpocbnkgckhaa
open Go Go.RowKit
theorem toldp_no {w w' : World} {k : Int} (hb : Below w.heap.size w w') : ToldP w rec0 k (.returned (.tuple #[.agg (recW rec0 (.slice none 0 0)), .int .i64 k])) w' :=
  ⟨none, 0, rfl, ⟨none, 0, rfl, Nat.le_refl _, fun x hx => (List.not_mem_nil hx).elim, fun h => absurd rfl h⟩, hb, fun k hk => by cases hk⟩
/- the puts while their images are told -/
def lg (q : List (BitVec 8)) (D : Nat → List (BitVec 8)) (n k : Nat) : List (Int × List (BitVec 8)) := (List.range n).map fun i => (atK q i, if i < k then D i else zer 32)
theorem lg_len (q : List (BitVec 8)) (D : Nat → List (BitVec 8)) (n k : Nat) : (lg q D n k).length = n := by simp [lg]
theorem lg_32 (q : List (BitVec 8)) (D : Nat → List (BitVec 8)) (n k : Nat) (h : ∀ i, i < n → (D i).length = 32) : ∀ x ∈ lg q D n k, x.2.length = 32 := by
  intro x hx
  obtain ⟨i, hi, rfl⟩ := List.mem_map.1 hx
  dsimp only
  split
  · exact h i (List.mem_range.1 hi)
  · exact length_zer 32
theorem lg_at (q : List (BitVec 8)) (D : Nat → List (BitVec 8)) (n k : Nat) (h : k < n) : (lg q D n k)[k]? = some (atK q k, zer 32) := by simp [lg, h]
theorem lg_set (q : List (BitVec 8)) (D : Nat → List (BitVec 8)) (n k : Nat) : (lg q D n k).set k (atK q k, D k) = lg q D n (k + 1) := by
  apply List.ext_getElem (by simp [lg])
  intro i h1 h2
  rw [List.getElem_set]
  simp only [lg, List.getElem_map, List.getElem_range]
  by_cases e : k = i
  · subst e; rw [if_pos rfl, if_pos (by omega)]
  · rw [if_neg e]
    by_cases hlt : i < k
    · rw [if_pos hlt, if_pos (by omega)]
    · rw [if_neg hlt, if_neg (by omega)]
theorem lg_0 (q : List (BitVec 8)) (D : Nat → List (BitVec 8)) (n : Nat) : ((List.range n).map (atK q)).map (fun i => (i, zer 32)) = lg q D n 0 := by
  unfold lg
  rw [List.map_map]
  apply List.map_congr_left
  intro i _
  rw [if_neg (by omega)]; rfl
theorem lg_all (q : List (BitVec 8)) (D : Nat → List (BitVec 8)) (n : Nat) : lg q D n n = (List.range n).map fun i => (atK q i, D i) := by
  unfold lg
  apply List.map_congr_left
  intro i hi
  rw [if_pos (List.mem_range.1 hi)]
theorem isHead_cnt {b : List (BitVec 8)} (h : isHead b = true) : cnt b ≤ 5 := by
  apply Decidable.byContradiction
  intro hn
  rw [isHead_many hn] at h
  cases h
set_option maxRecDepth 20000 in
set_option maxHeartbeats 1200000 in
theorem walget_any (D : DiskOps) (base : Nat) (w : World) (p : Value) (M : DiskM) (F : Nat → Prop) (f : Int) (h : D.A base w p M F) (hf : -9223372036854775808 ≤ f ∧ f < 9223372036854775808) (hl : M.l.length ≤ few) :
    Calls Try.prog 30 #[p, .int .i64 f] w (ToldP w (walGet M f).1 (walGet M f).2) := by
  obtain ⟨O, hO⟩ : ∃ O, D = O := ⟨_, rfl⟩
  subst hO
  have hz := zeros_rw
  have HA := Lib.hid h
  have HF := Lib.hid hf
  have HL := Lib.hid hl
  have HRES : Hid (walGet M f = if mayB M f then (if M.down then (rec0, 20) else if isHead (M.now f.toNat) then (recAt M f.toNat, 0) else (rec0, 11)) else (rec0, 1)) := Lib.hid rfl
  have HOK := Lib.hid (D.ok h)
  have HS := St.nil w noF
  clear h hf hl
  go_enter Try.func30, Try.ntmps30
  go_upto_region 1 with (first | ((with_reducible refine wpList_plain ?_ ?_); exact rfl; intro KK hKK; refine wp_st_alloc HS 67 (recW rec0 (.slice none 0 0)) rfl (.agg (recW rec0 (.slice none 0 0))) (by kernel_rfl) (rfl) (fun g4 W1 HSx => hKK _ _ ?_); clear hKK KK HS; have HS : St w noF [⟨g4, 67, recW rec0 (.slice none 0 0)⟩] W1 := HSx; clear HSx))
  have C1 := haslog_any _ D base p M F (D.still HA.out HS.below) f HF.out
  go_wp2_with fail
  refine C1.mono ?_
  rintro e w1 ⟨rfl, b1⟩
  have HSx := HS.same b1
  clear HS b1 C1
  have HS := HSx
  clear HSx
  cases hmay : mayB M f with
  | false =>
    have hR : walGet M f = (rec0, 1) := by rw [HRES.out, hmay]; rfl
    have HQ1 := Lib.hid hR
    clear hR hmay
    go_wp2_with (first | ((with_reducible refine wpList_plain ?_ ?_); exact rfl; intro KK hKK; refine wp_st_store HS 0 0 67 (.tmp 4) (.tmp 14) rfl rfl rfl (.agg #[.int .u32 0, .int .u32 0, .slice none 0 0]) rfl (by exact info_rec) (by exact Nat.le_refl 3) (by exact one_rw rec0 none 0 0) (recW rec0 (.slice none 0 0)) (spl_agg _ _ _ zeros_rw rfl) (fun W2 HSx => hKK _ _ ?_); clear hKK KK HS; have HS : St w noF [⟨g4, 67, recW rec0 (.slice none 0 0)⟩] W2 := HSx; clear HSx))
    exact bodyPost_ret (v := .tuple #[.agg (recW rec0 (.slice none 0 0)), .int .i64 1]) (results_cell_tmp Try.results30 _ _ g4 67 (recW rec0 (.slice none 0 0)) (0, 0) _ rfl (HS.row 0 rfl) Try.underlying67 rfl (by exact info_rec)) rfl (by first | exact toldp_no HS.below | (rw [HQ1.out]; exact toldp_no HS.below))
  | true =>
    have HM6 : Hid (0 ≤ f ∧ f + 6 ≤ (M.s.length : Int)) := Lib.hid (by unfold mayB at hmay; simpa using hmay)
    obtain ⟨f, rfl⟩ := Int.eq_ofNat_of_zero_le HM6.out.1
    have HFS : Hid (f + 6 ≤ M.s.length ∧ M.s.length ≤ 1024) := Lib.hid ⟨by have := HM6.out; omega, HOK.out.hi⟩
    have hhas : M.has (f : Int) = true := by unfold DiskM.has; have := HFS.out; simp; omega
    cases hdn : M.down with
    | true =>
      have hR : walGet M (f : Int) = (rec0, 20) := by rw [HRES.out, hmay, hdn]; rfl
      have C2 := D.read' (f : Int) (D.still HA.out HS.below) HL.out HF.out (blk 0#8) 20 (by unfold DiskM.rRes; rw [hhas, hdn]; rfl)
      have HQ1 := Lib.hid hR
      clear hR hmay hhas hdn
      have hzb := zeros_blk
      go_wp2_with fail
      refine C2.mono ?_
      rintro e w2 ⟨rfl, b2⟩
      have HSx := HS.same b2
      clear HS b2 C2
      have HS := HSx
      clear HSx
      go_wp2_with (first | ((with_reducible refine wpList_plain ?_ ?_); exact rfl; intro KK hKK; refine wp_st_alloc HS 37 (bs (blk 0#8)) rfl (.agg (bs (blk 0#8))) (by kernel_rfl) (rfl) (fun g6 W2 HSx => hKK _ _ ?_); clear hKK KK HS; have HS : St w noF [⟨g4, 67, recW rec0 (.slice none 0 0)⟩, ⟨g6, 37, bs (blk 0#8)⟩] W2 := HSx; clear HSx) | ((with_reducible refine wpList_plain ?_ ?_); exact rfl; intro KK hKK; refine wp_st_store HS 1 0 37 (.tmp 6) (.tmp 19) rfl rfl rfl (.agg (bs (blk 0#8))) rfl (by exact size_b32 (length_blk 0#8)) (by rw [Nat.zero_add]; exact Nat.le_of_eq (same_b32 (length_blk 0#8)).symm) (by exact one_bs _) (bs (blk 0#8)) (spl_agg _ _ _ rfl (same_b32 (length_blk 0#8))) (fun W3 HSx => hKK _ _ ?_); clear hKK KK HS; have HS : St w noF [⟨g4, 67, recW rec0 (.slice none 0 0)⟩, ⟨g6, 37, bs (blk 0#8)⟩] W3 := HSx; clear HSx) | ((with_reducible refine wpList_plain ?_ ?_); exact rfl; intro KK hKK; refine wp_st_store HS 0 0 67 (.tmp 4) (.tmp 23) rfl rfl rfl (.agg #[.int .u32 0, .int .u32 0, .slice none 0 0]) rfl (by exact info_rec) (by exact Nat.le_refl 3) (by exact one_rw rec0 none 0 0) (recW rec0 (.slice none 0 0)) (spl_agg _ _ _ zeros_rw rfl) (fun W4 HSx => hKK _ _ ?_); clear hKK KK HS; have HS : St w noF [⟨g4, 67, recW rec0 (.slice none 0 0)⟩, ⟨g6, 37, bs (blk 0#8)⟩] W4 := HSx; clear HSx))
      exact bodyPost_ret (v := .tuple #[.agg (recW rec0 (.slice none 0 0)), .int .i64 20]) (results_cell_tmp Try.results30 _ _ g4 67 (recW rec0 (.slice none 0 0)) (0, 0) _ rfl (HS.row 0 rfl) Try.underlying67 rfl (by exact info_rec)) rfl (by rw [HQ1.out]; exact toldp_no HS.below)
    | false =>
      obtain ⟨b, hb⟩ : ∃ b, M.now f = b := ⟨_, rfl⟩
      have HBL : Hid (b.length = 32) := Lib.hid (by rw [← hb]; exact now_length HOK.out (by have := HFS.out; omega))
      have C2 := D.read' (f : Int) (D.still HA.out HS.below) HL.out HF.out b 0 (by unfold DiskM.rRes; rw [hhas, hdn, Int.toNat_natCast, hb]; rfl)
      have hR : walGet M (f : Int) = if isHead b then (recAt M f, 0) else (rec0, 11) := by rw [HRES.out, hmay, hdn, Int.toNat_natCast, hb]; rfl
      have HDN := Lib.hid hdn
      have HB := Lib.hid hb
      have HR0 := Lib.hid hR
      clear hmay hhas hdn hb hR
      have hzb := zeros_blk
      go_wp2_with fail
      refine C2.mono ?_
      rintro e w2 ⟨rfl, b2⟩
      have HSx := HS.same b2
      clear HS b2 C2
      have HS := HSx
      clear HSx
      go_upto_region 6 with (first | ((with_reducible refine wpList_plain ?_ ?_); exact rfl; intro KK hKK; refine wp_st_alloc HS 37 (bs (blk 0#8)) rfl (.agg (bs (blk 0#8))) (by kernel_rfl) (rfl) (fun g6 W2 HSx => hKK _ _ ?_); clear hKK KK HS; have HS : St w noF [⟨g4, 67, recW rec0 (.slice none 0 0)⟩, ⟨g6, 37, bs (blk 0#8)⟩] W2 := HSx; clear HSx) | ((with_reducible refine wpList_plain ?_ ?_); exact rfl; intro KK hKK; refine wp_st_store HS 1 0 37 (.tmp 6) (.tmp 19) rfl rfl rfl (.agg (bs (b))) rfl (by exact size_b32 HBL.out) (by rw [Nat.zero_add]; exact Nat.le_of_eq (same_b32 HBL.out).symm) (by exact one_bs _) (bs (b)) (spl_agg _ _ _ rfl (same_b32 HBL.out)) (fun W3 HSx => hKK _ _ ?_); clear hKK KK HS; have HS : St w noF [⟨g4, 67, recW rec0 (.slice none 0 0)⟩, ⟨g6, 37, bs (b)⟩] W3 := HSx; clear HSx) | ((with_reducible refine wpList_plain ?_ ?_); exact rfl; intro KK hKK; refine wp_st_load HS 1 0 37 (.tmp 6) rfl rfl rfl (bs b) (slab_whole _) _ Try.underlying37 rfl (size_b32 HBL.out) (hKK _ _ ?_); clear hKK KK))
      clear hzb
      go_wp2_with (first | ((with_reducible refine wpList_plain ?_ ?_); exact rfl; intro KK hKK; refine wp_st_alloc HS 37 (bs (blk 0#8)) rfl (.agg (bs (blk 0#8))) (by kernel_rfl) (rfl) (fun g6 W2 HSx => hKK _ _ ?_); clear hKK KK HS; have HS : St w noF [⟨g4, 67, recW rec0 (.slice none 0 0)⟩, ⟨g6, 37, bs (blk 0#8)⟩] W2 := HSx; clear HSx) | ((with_reducible refine wpList_plain ?_ ?_); exact rfl; intro KK hKK; refine wp_st_store HS 1 0 37 (.tmp 6) (.tmp 19) rfl rfl rfl (.agg (bs (b))) rfl (by exact size_b32 HBL.out) (by rw [Nat.zero_add]; exact Nat.le_of_eq (same_b32 HBL.out).symm) (by exact one_bs _) (bs (b)) (spl_agg _ _ _ rfl (same_b32 HBL.out)) (fun W3 HSx => hKK _ _ ?_); clear hKK KK HS; have HS : St w noF [⟨g4, 67, recW rec0 (.slice none 0 0)⟩, ⟨g6, 37, bs (b)⟩] W3 := HSx; clear HSx) | ((with_reducible refine wpList_plain ?_ ?_); exact rfl; intro KK hKK; refine wp_st_load HS 1 0 37 (.tmp 6) rfl rfl rfl (bs b) (slab_whole _) _ Try.underlying37 rfl (size_b32 HBL.out) (hKK _ _ ?_); clear hKK KK))
      refine (without_any b _ HBL.out).mono ?_
      intro e w3 hp
      unfold HeadTold at hp
      have hR := HR0.out
      cases hi : isHead b with
      | false =>
        rw [hi, if_neg (by decide)] at hp
        obtain ⟨rfl, b3⟩ := hp
        rw [hi, if_neg (by decide)] at hR
        have HQ1 := Lib.hid hR
        clear hR hi
        have HSx := HS.same b3
        clear HS b3
        have HS := HSx
        clear HSx
        go_wp2_with (first | ((with_reducible refine wpList_plain ?_ ?_); exact rfl; intro KK hKK; refine wp_st_alloc HS 67 (recW rec0 (.slice none 0 0)) rfl (.agg (recW rec0 (.slice none 0 0))) (by kernel_rfl) (rfl) (fun g8 W4 HSx => hKK _ _ ?_); clear hKK KK HS; have HS : St w noF [⟨g4, 67, recW rec0 (.slice none 0 0)⟩, ⟨g6, 37, bs (b)⟩, ⟨g8, 67, recW rec0 (.slice none 0 0)⟩] W4 := HSx; clear HSx) | ((with_reducible refine wpList_plain ?_ ?_); exact rfl; intro KK hKK; refine wp_st_store HS 2 0 67 (.tmp 8) (.tmp 28) rfl rfl rfl (.agg (recW rec0 (.slice none 0 0))) rfl (by exact info_rec) (by exact Nat.le_refl 3) (by exact one_rw rec0 none 0 0) (recW rec0 (.slice none 0 0)) (spl_agg _ _ _ rfl rfl) (fun W5 HSx => hKK _ _ ?_); clear hKK KK HS; have HS : St w noF [⟨g4, 67, recW rec0 (.slice none 0 0)⟩, ⟨g6, 37, bs (b)⟩, ⟨g8, 67, recW rec0 (.slice none 0 0)⟩] W5 := HSx; clear HSx) | ((with_reducible refine wpList_plain ?_ ?_); exact rfl; intro KK hKK; refine wp_st_store HS 0 0 67 (.tmp 4) (.tmp 32) rfl rfl rfl (.agg #[.int .u32 0, .int .u32 0, .slice none 0 0]) rfl (by exact info_rec) (by exact Nat.le_refl 3) (by exact one_rw rec0 none 0 0) (recW rec0 (.slice none 0 0)) (spl_agg _ _ _ zeros_rw rfl) (fun W6 HSx => hKK _ _ ?_); clear hKK KK HS; have HS : St w noF [⟨g4, 67, recW rec0 (.slice none 0 0)⟩, ⟨g6, 37, bs (b)⟩, ⟨g8, 67, recW rec0 (.slice none 0 0)⟩] W6 := HSx; clear HSx))
        exact bodyPost_ret (v := .tuple #[.agg (recW rec0 (.slice none 0 0)), .int .i64 11]) (results_cell_tmp Try.results30 _ _ g4 67 (recW rec0 (.slice none 0 0)) (0, 0) _ rfl (HS.row 0 rfl) Try.underlying67 rfl (by exact info_rec)) rfl (by rw [HQ1.out]; exact toldp_no HS.below)
      | true =>
        have HI := Lib.hid hi
        rw [hi, if_pos rfl] at hp hR
        obtain ⟨gP, rfl, rP, hgP, b3⟩ := hp
        have HRR := Lib.hid hR
        obtain ⟨n, hn⟩ : ∃ n, cnt b = n := ⟨_, rfl⟩
        obtain ⟨q, hq⟩ : ∃ q, bodyOf b = q := ⟨_, rfl⟩
        obtain ⟨e0, he0⟩ : ∃ e0, num ((bodyOf b).take 4) = e0 := ⟨_, rfl⟩
        obtain ⟨s0, hs0⟩ : ∃ s0, num (((bodyOf b).drop 4).take 4) = s0 := ⟨_, rfl⟩
        obtain ⟨DD, hDD⟩ : ∃ DD : Nat → List (BitVec 8), (fun k => M.now (f + 1 + k)) = DD := ⟨_, rfl⟩
        have HDF : Hid (∀ k, M.now (f + 1 + k) = DD k) := Lib.hid (fun k => congrFun hDD k)
        have HN5 : Hid (n ≤ 5) := Lib.hid (by rw [← hn]; exact isHead_cnt hi)
        have HDL : Hid (∀ i, i < n → (DD i).length = 32) := Lib.hid (fun i hin => by rw [← hDD]; exact now_length HOK.out (by have := HFS.out; have := HN5.out; omega))
        have hat : atsOf b = (List.range n).map (atK q) := by unfold atsOf; rw [hn, hq]; rfl
        have HRA : Hid (recAt M f = ⟨e0, s0, lg q DD n n⟩) := Lib.hid (by rw [lg_all, ← hDD, ← he0, ← hs0, ← hn, ← hq, ← HB.out]; rfl)
        rw [hat, lg_0 q DD n] at rP
        rw [hn, he0, hs0]
        have HSx : St w noF [⟨g4, 67, recW rec0 (.slice none 0 0)⟩, ⟨g6, 37, bs (b)⟩, ⟨gP, 43, pcs (lg q DD n 0)⟩] w3 := HS.add b3 rP hgP
        clear hR hi hn hq he0 hs0 hDD hat HS b3 rP hgP
        have HS := HSx
        clear HSx
        go_upto_region 9 with (first | ((with_reducible refine wpList_plain ?_ ?_); exact rfl; intro KK hKK; refine wp_st_alloc HS 67 (recW rec0 (.slice none 0 0)) rfl (.agg (recW rec0 (.slice none 0 0))) (by kernel_rfl) (rfl) (fun g8 W41 HSx => hKK _ _ ?_); clear hKK KK HS; have HS : St w noF [⟨g4, 67, recW rec0 (.slice none 0 0)⟩, ⟨g6, 37, bs (b)⟩, ⟨gP, 43, pcs (lg q DD n 0)⟩, ⟨g8, 67, recW rec0 (.slice none 0 0)⟩] W41 := HSx; clear HSx) | ((with_reducible refine wpList_plain ?_ ?_); exact rfl; intro KK hKK; refine wp_st_store HS 3 0 67 (.tmp 8) (.tmp 28) rfl rfl rfl (.agg (recW ⟨e0, s0, []⟩ (.slice (some ⟨gP, 0, none⟩) n n))) rfl (by exact info_rec) (by exact Nat.le_refl 3) (by exact one_rw _ _ _ _) (recW ⟨e0, s0, []⟩ (.slice (some ⟨gP, 0, none⟩) n n)) (spl_agg _ _ _ rfl rfl) (fun W42 HSx => hKK _ _ ?_); clear hKK KK HS; have HS : St w noF [⟨g4, 67, recW rec0 (.slice none 0 0)⟩, ⟨g6, 37, bs (b)⟩, ⟨gP, 43, pcs (lg q DD n 0)⟩, ⟨g8, 67, recW ⟨e0, s0, []⟩ (.slice (some ⟨gP, 0, none⟩) n n)⟩] W42 := HSx; clear HSx))
        have c2 : W42.cell? ⟨g8, 2, none⟩ = some (.slice (some ⟨gP, 0, none⟩) n n) := (HS.row 3 rfl).get rfl
        go_upto_region 10 with fail
        clear c2
        have hn5 : n ≤ 5 := HN5.out
        have HS8 := Lib.hid HS
        clear HS
        go_loopw [37] (fun i wr => ∃ k : Nat, k ≤ n ∧ i = .int .i64 k ∧ St w noF [⟨g4, 67, recW rec0 (.slice none 0 0)⟩, ⟨g6, 37, bs (b)⟩, ⟨gP, 43, pcs (lg q DD n k)⟩, ⟨g8, 67, recW ⟨e0, s0, []⟩ (.slice (some ⟨gP, 0, none⟩) n n)⟩] wr) (fun i _ => n - (intOf i).toNat)
        case atStart => exact ⟨0, by omega, rfl, HS8.out⟩
        case round =>
          clear HS8
          obtain ⟨k, hk, rfl, HS⟩ := hrel
          by_cases hlt : k < n
          · have hk0 : (0 : Int) ≤ (k : Int) := by omega
            have hk1 : (k : Int) < (n : Int) := by omega
            have HKN := Lib.hid hlt
            have HDK := Lib.hid (HDL.out k hlt)
            have HIM : Hid ((0 : Int) ≤ (f : Int) ∧ (f : Int) ≤ 2000 ∧ (0 : Int) ≤ (k : Int) ∧ (k : Int) ≤ 2000) := Lib.hid ⟨by omega, by have := HFS.out; omega, by omega, by have := HN5.out; omega⟩
            have HRD : Hid (∀ W, Below w.heap.size w W → Calls Try.prog 17 #[p, .int .i64 ((f : Int) + 1 + (k : Int))] W (Asks W (.tuple #[.agg (bs (DD k)), .int .i64 0]))) := Lib.hid (fun W hb => by
              refine D.read' ((f : Int) + 1 + (k : Int)) (D.still HA.out hb) HL.out (by have := HFS.out; have := HN5.out; omega) (DD k) 0 ?_
              have h1 : M.has ((f : Int) + 1 + (k : Int)) = true := by unfold DiskM.has; have := HFS.out; have := HN5.out; simp; omega
              unfold DiskM.rRes
              rw [h1, HDN.out, show ((f : Int) + 1 + (k : Int)).toNat = f + 1 + k by omega]
              exact congrArg (fun x => (x, (0 : Int))) (HDF.out k))
            go_upto_region 12 with fail
            have hF0 : Wl [fun W => St w noF [⟨g4, 67, recW rec0 (.slice none 0 0)⟩, ⟨g6, 37, bs (b)⟩, ⟨gP, 43, pcs (lg q DD n k)⟩, ⟨g8, 67, recW ⟨e0, s0, []⟩ (.slice (some ⟨gP, 0, none⟩) n n)⟩] W, fun W => St w noF [⟨g4, 67, recW rec0 (.slice none 0 0)⟩, ⟨g6, 37, bs (b)⟩, ⟨gP, 43, pcs (lg q DD n (k + 1))⟩, ⟨g8, 67, recW ⟨e0, s0, []⟩ (.slice (some ⟨gP, 0, none⟩) n n)⟩] W] 0 (World.drew _) := HS.drew
            clear HS
            refine wp_region_phs [is (.pointer (some ⟨g8, 2, none⟩)), is (.slice (some ⟨gP, 0, none⟩) n n), is (.int .i64 (k : Int)), is (p), is (.int .i64 (f : Int)), is (.int .i64 (k : Int)), is (.int .i64 ((f : Int) + 1 + (k : Int))), is (.tuple #[.agg (bs (DD k)), .int .i64 0]), is (.tuple #[.agg (bs (DD k)), .int .i64 0]), is (.agg (bs (DD k))), is (.int .i64 0), is (.pointer (some ⟨gP, k * 33, none⟩)), is (.pointer (some ⟨gP, k * 33 + 1, none⟩)), anyV, is (.int .i64 0)] [true, true, true, true, true, true, true, true, true, true, true, true, true, true, true] [(fun W => St w noF [⟨g4, 67, recW rec0 (.slice none 0 0)⟩, ⟨g6, 37, bs (b)⟩, ⟨gP, 43, pcs (lg q DD n k)⟩, ⟨g8, 67, recW ⟨e0, s0, []⟩ (.slice (some ⟨gP, 0, none⟩) n n)⟩] W), (fun W => St w noF [⟨g4, 67, recW rec0 (.slice none 0 0)⟩, ⟨g6, 37, bs (b)⟩, ⟨gP, 43, pcs (lg q DD n (k + 1))⟩, ⟨g8, 67, recW ⟨e0, s0, []⟩ (.slice (some ⟨gP, 0, none⟩) n n)⟩] W)] [false, false, false, false, false, false, false, false, false, false, false, false, false, true, false] [some 0, some 0, some 0, some 0, some 0, some 0, some 0, some 0, some 0, some 0, none, some 0, some 0, some 0, some 1] [some 41, some 42, some 43, some 44, some 45, some 46, some 47, some 48, some 40, some 49, some 50, some 51, some 52, none, some 7] 15 1 (fun _ => true) rfl rfl (by kernel_rfl) (by kernel_rfl) (by kernel_rfl) (by kernel_rfl) ?_ ?_ ?_ ?_ ?_ ?_
            · repeat first | exact wok_nil | refine wok_cons (by first | exact fun _ _ h k => h.same k) ?_
            · repeat first | exact vok_nil | refine vok_rig (by first | exact fun _ _ _ h => h) ?_ | refine vok_soft (by first | exact fun _ _ _ h _ => h) ?_
            · exact hF0
            · repeat first | exact all_end (by decide) | refine all_cons (by first | exact rfl | exact ⟨rfl, fun _ _ h => Or.inl h⟩ | exact ⟨rfl, fun _ _ h => Or.inr ⟨h, rfl⟩⟩) ?_
            · refine allp_mild 0 rfl rfl rfl (fun a x W hout hin hP => ?_) ?_
              · have e8 : a.tmps[8]? = some (.pointer (some ⟨g8, 0, none⟩)) := (hout 8 (by kernel_rfl)).trans rfl
                clear hin hout
                intro K Q hK
                go_simp
                exact hK _ _ ⟨Same.refl _, rfl⟩
              refine allp_mild 0 rfl rfl rfl (fun a x W hout hin hP => ?_) ?_
              · have e41 := hin.is 0 41 (by kernel_rfl) (by decide) (by kernel_rfl) (by kernel_rfl) _ rfl
                have hc : W.cell? ⟨g8, 2, none⟩ = some (.slice (some ⟨gP, 0, none⟩) n n) := (hP.row 3 rfl).get rfl
                clear hP
                clear hin hout
                intro K Q hK
                go_simp
                exact hK _ _ ⟨Same.refl _, rfl⟩
              refine allp_mild 0 rfl rfl rfl (fun a x W hout hin hP => ?_) ?_
              · have e9 : a.tmps[9]? = some (.int .i64 (k : Int)) := (hout 9 (by kernel_rfl)).trans rfl
                exact does_move rfl e9 ⟨Same.refl _, rfl⟩
              refine allp_mild 0 rfl rfl rfl (fun a x W hout hin hP => ?_) ?_
              · have e0 : a.tmps[0]? = some (p) := (hout 0 (by kernel_rfl)).trans rfl
                exact does_move rfl e0 ⟨Same.refl _, rfl⟩
              refine allp_mild 0 rfl rfl rfl (fun a x W hout hin hP => ?_) ?_
              · have e1 : a.tmps[1]? = some (.int .i64 (f : Int)) := (hout 1 (by kernel_rfl)).trans rfl
                exact does_move rfl e1 ⟨Same.refl _, rfl⟩
              refine allp_mild 0 rfl rfl rfl (fun a x W hout hin hP => ?_) ?_
              · have e9 : a.tmps[9]? = some (.int .i64 (k : Int)) := (hout 9 (by kernel_rfl)).trans rfl
                exact does_move rfl e9 ⟨Same.refl _, rfl⟩
              refine allp_mild 0 rfl rfl rfl (fun a x W hout hin hP => ?_) ?_
              · have e45 := hin.is 4 45 (by kernel_rfl) (by decide) (by kernel_rfl) (by kernel_rfl) _ rfl
                have e46 := hin.is 5 46 (by kernel_rfl) (by decide) (by kernel_rfl) (by kernel_rfl) _ rfl
                have C := image_any (f : Int) (k : Int) W HIM.out.1 HIM.out.2.1 HIM.out.2.2.1 HIM.out.2.2.2
                clear hP
                clear hin hout
                intro K Q hK
                go_simp
                refine C.mono ?_
                rintro e W' ⟨rfl, rfl⟩
                exact hK _ _ ⟨Same.refl _, rfl⟩
              refine allp_mild 0 rfl rfl rfl (fun a x W hout hin hP => ?_) ?_
              · have e44 := hin.is 3 44 (by kernel_rfl) (by decide) (by kernel_rfl) (by kernel_rfl) _ rfl
                have e47 := hin.is 6 47 (by kernel_rfl) (by decide) (by kernel_rfl) (by kernel_rfl) _ rfl
                have C := HRD.out W hP.below
                clear hP
                clear hin hout
                intro K Q hK
                go_simp
                refine C.mono ?_
                rintro e W' ⟨rfl, hb⟩
                exact hK _ _ ⟨hb, rfl⟩
              refine allp_mild 0 rfl rfl rfl (fun a x W hout hin hP => ?_) ?_
              · have e48 := hin.is 7 48 (by kernel_rfl) (by decide) (by kernel_rfl) (by kernel_rfl) _ rfl
                exact does_move rfl e48 ⟨Same.refl _, rfl⟩
              refine allp_mild 0 rfl rfl rfl (fun a x W hout hin hP => ?_) ?_
              · have e40 := hin.is 8 40 (by kernel_rfl) (by decide) (by kernel_rfl) (by kernel_rfl) _ rfl
                clear hin hout
                intro K Q hK
                go_simp
                exact hK _ _ ⟨Same.refl _, rfl⟩
              refine allp_pure rfl rfl (fun a x W hout hin => ?_) ?_
              · have e40 := hin.is 8 40 (by kernel_rfl) (by decide) (by kernel_rfl) (by kernel_rfl) _ rfl
                clear hin hout
                intro K Q hK
                go_simp
                exact hK _ _ ⟨rfl, rfl⟩
              refine allp_mild 0 rfl rfl rfl (fun a x W hout hin hP => ?_) ?_
              · have e42 := hin.is 1 42 (by kernel_rfl) (by decide) (by kernel_rfl) (by kernel_rfl) _ rfl
                have e43 := hin.is 2 43 (by kernel_rfl) (by decide) (by kernel_rfl) (by kernel_rfl) _ rfl
                clear hin hout
                intro K Q hK
                go_simp
                exact hK _ _ ⟨Same.refl _, rfl⟩
              refine allp_mild 0 rfl rfl rfl (fun a x W hout hin hP => ?_) ?_
              · have e51 := hin.is 11 51 (by kernel_rfl) (by decide) (by kernel_rfl) (by kernel_rfl) _ rfl
                clear hin hout
                intro K Q hK
                go_simp
                exact hK _ _ ⟨Same.refl _, rfl⟩
              refine allp_wild 0 rfl rfl rfl (fun a x W hout hin hP => ?_) ?_
              · have e52 := hin.is 12 52 (by kernel_rfl) (by decide) (by kernel_rfl) (by kernel_rfl) _ rfl
                have e49 := hin.is 9 49 (by kernel_rfl) (by decide) (by kernel_rfl) (by kernel_rfl) _ rfl
                clear hin hout
                intro K Q hK
                exact wp_st_store hP 2 (k * 33 + 1) 37 (.tmp 52) (.tmp 49) rfl rfl (eval_of_get e52) (.agg (bs (DD k))) (eval_of_get e49) (by exact size_b32 HDK.out) (by show k * 33 + 1 + (bs (DD k)).size ≤ (pcs (lg q DD n k)).size; rw [size_pcs (lg_32 q DD n k HDL.out), lg_len, size_bs, HDK.out]; have := HKN.out; omega) (by exact one_bs _) (pcs (lg q DD n (k + 1))) (by rw [show Value.cells (.agg (bs (DD k))) = bs (DD k) from rfl, bs_toList, pcs_data (lg_32 q DD n k HDL.out) (lg_at q DD n k HKN.out) (DD k) HDK.out, lg_set q DD n k]) (fun W' HSx => hK _ _ ⟨HSx, trivial⟩)
              refine allp_mild 1 rfl rfl rfl (fun a x W hout hin hP => ?_) ?_
              · have e50 := hin.is 10 50 (by kernel_rfl) (by decide) (by kernel_rfl) (by kernel_rfl) _ rfl
                exact does_assign rfl e50 ⟨Same.refl _, rfl⟩
              exact all_end (by decide)
            · intro x W hP hV
              have HS9 := Lib.hid (show St w noF [⟨g4, 67, recW rec0 (.slice none 0 0)⟩, ⟨g6, 37, bs (b)⟩, ⟨gP, 43, pcs (lg q DD n (k + 1))⟩, ⟨g8, 67, recW ⟨e0, s0, []⟩ (.slice (some ⟨gP, 0, none⟩) n n)⟩] W from hP)
              have h14 : x 14 = .int .i64 0 := hV 14 (by decide) (.inl (by kernel_rfl))
              clear hP hV
              simp only [putL, Act.put, List.setIfInBounds_toArray, List.set_cons_succ, List.set_cons_zero, h14]
              refine wpAnyH_done (by kernel_rfl) ?_ _
              clear h14
              go_wp2_with fail
              exact ⟨⟨k + 1, by omega, by go_num, HS9.out⟩, by simp [intOf] <;> omega⟩
          · obtain rfl : k = n := by omega
            have hq : decide ((k : Int) < (k : Int)) = false := decide_eq_false (by omega)
            clear hlt
            go_wp2_with (first | ((with_reducible refine wpList_plain ?_ ?_); exact rfl; intro KK hKK; refine wp_st_load HS 3 0 67 (.tmp 8) rfl rfl rfl (recW ⟨e0, s0, []⟩ (.slice (some ⟨gP, 0, none⟩) k k)) (slab_whole _) _ Try.underlying67 rfl (by exact info_rec) (hKK _ _ ?_); clear hKK KK) | ((with_reducible refine wpList_plain ?_ ?_); exact rfl; intro KK hKK; refine wp_st_store HS 0 0 67 (.tmp 4) (.tmp 58) rfl rfl rfl (.agg (recW ⟨e0, s0, []⟩ (.slice (some ⟨gP, 0, none⟩) k k))) rfl (by exact info_rec) (by exact Nat.le_refl 3) (by exact one_rw _ _ _ _) (recW ⟨e0, s0, []⟩ (.slice (some ⟨gP, 0, none⟩) k k)) (spl_agg _ _ _ rfl rfl) (fun W61 HSx => hKK _ _ ?_); clear hKK KK HS; have HS : St w noF [⟨g4, 67, recW ⟨e0, s0, []⟩ (.slice (some ⟨gP, 0, none⟩) k k)⟩, ⟨g6, 37, bs (b)⟩, ⟨gP, 43, pcs (lg q DD k k)⟩, ⟨g8, 67, recW ⟨e0, s0, []⟩ (.slice (some ⟨gP, 0, none⟩) k k)⟩] W61 := HSx; clear HSx))
            exact bodyPost_ret (v := .tuple #[.agg (recW ⟨e0, s0, []⟩ (.slice (some ⟨gP, 0, none⟩) k k)), .int .i64 0]) (results_cell_tmp Try.results30 _ _ g4 67 (recW ⟨e0, s0, []⟩ (.slice (some ⟨gP, 0, none⟩) k k)) (0, 0) _ rfl (HS.row 0 rfl) Try.underlying67 rfl (by exact info_rec)) rfl (by rw [HRR.out, HRA.out]; exact ⟨some ⟨gP, 0, none⟩, k, by rw [lg_len]; rfl, by rw [lg_len]; have := puts_pcs (c := k) (HS.row 2 rfl) (by rw [lg_len]; exact Nat.le_refl _) (fun x hx => ⟨lg_32 q DD k k HDL.out x hx, by obtain ⟨i, _, rfl⟩ := List.mem_map.1 hx; have := atK_b q i; dsimp only; omega⟩); rwa [lg_len] at this, HS.below, fun j hj => by cases hj; exact (HS.own 2 _ rfl).elim (fun h => h.elim) id⟩)
set_option maxHeartbeats 400000 in
theorem walget_nil (D : DiskOps) (w : World) (f : Int) (hf : -9223372036854775808 ≤ f ∧ f < 9223372036854775808) : Calls Try.prog 30 #[nilPtr, .int .i64 f] w (ToldP w rec0 1) := by
  have hz := zeros_rw
  have HF := Lib.hid hf
  have HS := St.nil w noF
  clear hf
  go_enter Try.func30, Try.ntmps30
  go_upto_region 1 with (first | ((with_reducible refine wpList_plain ?_ ?_); exact rfl; intro KK hKK; refine wp_st_alloc HS 67 (recW rec0 (.slice none 0 0)) rfl (.agg (recW rec0 (.slice none 0 0))) (by kernel_rfl) (rfl) (fun g4 W1 HSx => hKK _ _ ?_); clear hKK KK HS; have HS : St w noF [⟨g4, 67, recW rec0 (.slice none 0 0)⟩] W1 := HSx; clear HSx))
  have C1 := haslog_nil W1 D f HF.out
  go_wp2_with fail
  refine C1.mono ?_
  rintro e w1 ⟨rfl, b1⟩
  have HSx := HS.same b1
  clear HS b1 C1
  have HS := HSx
  clear HSx
  go_wp2_with (first | ((with_reducible refine wpList_plain ?_ ?_); exact rfl; intro KK hKK; refine wp_st_store HS 0 0 67 (.tmp 4) (.tmp 14) rfl rfl rfl (.agg #[.int .u32 0, .int .u32 0, .slice none 0 0]) rfl (by exact info_rec) (by exact Nat.le_refl 3) (by exact one_rw rec0 none 0 0) (recW rec0 (.slice none 0 0)) (spl_agg _ _ _ zeros_rw rfl) (fun W2 HSx => hKK _ _ ?_); clear hKK KK HS; have HS : St w noF [⟨g4, 67, recW rec0 (.slice none 0 0)⟩] W2 := HSx; clear HSx))
  exact bodyPost_ret (v := .tuple #[.agg (recW rec0 (.slice none 0 0)), .int .i64 1]) (results_cell_tmp Try.results30 _ _ g4 67 (recW rec0 (.slice none 0 0)) (0, 0) _ rfl (HS.row 0 rfl) Try.underlying67 rfl (by exact info_rec)) rfl (by first | exact toldp_no HS.below | (rw [HQ1.out]; exact toldp_no HS.below))
theorem walOps : WalOps diskOps where
  good := walgood_any
  put := fun base w p M F f e0 s0 A c l h hf hv hl hA hM _ => walput_any diskOps base w p M F f e0 s0 A c l h hf hv hl hA hM
  putNil := fun w f e0 s0 A c l hf _ _ => walput_nil diskOps w f e0 s0 A c l hf
  get := walget_any diskOps
  getNil := walget_nil diskOps
end Go.Proofs.Ytbdpocbnkgckhaa

/- The program's packet: may there be such a packet; its head; its bytes. -/
set_option maxRecDepth 4000
namespace Go.Proofs.Ytbdpocbnkgckhaa
open Go Go.RowKit
theorem size_pkt : (Try.prog.info? 29).map (·.size) = some 4 := by kernel_rfl
theorem size_head : (Try.prog.info? 88).map (·.size) = some 4 := by kernel_rfl
def headA (k : Int) (e s : BitVec 32) (n : Int) : Array Value := #[.int .i64 k, .int .u32 (wd e), .int .u32 (wd s), .int .i64 n]
theorem head_one (k : Int) (e s : BitVec 32) (n : Int) : (Value.agg (headA k e s n)).cells.all (·.oneCell') = true := by simp [Value.cells, headA, Value.oneCell']
theorem puts_form {w : World} {v : Value} {l : List Pt} (h : PutsAt w v l) : ∃ A n c, v = .slice A n c ∧ l.length = n ∧ n ≤ c := by
  obtain ⟨A, c, h1, h2, _⟩ := h
  exact ⟨A, _, c, h1, rfl, h2⟩
set_option maxHeartbeats 800000 in
theorem pmay_any (p : Pkt) (v : Value) (w : World) (hv : PutsAt w v p.l) (hl : p.l.length ≤ maxLen) : Calls Try.prog 55 #[.agg (pktA p.k p.e p.s v)] w fun x w' => x = .returned (.bool (mayP p)) ∧ Below w.heap.size w w' := by
  obtain ⟨k, e, s, l⟩ := p
  obtain ⟨A, n, c, rfl, hn, _⟩ := puts_form hv
  obtain ⟨G, hG⟩ : ∃ G, mayP ⟨k, e, s, l⟩ = G := ⟨_, rfl⟩
  rw [hG]
  unfold mayP at hG
  simp only at hG hv hl
  have HV := Lib.hid hv
  have HL := Lib.hid hl
  have HN := Lib.hid hn
  have HG := Lib.hid hG
  clear hv hl hn hG
  have HS := St.nil w noF
  go_enter Try.func55, Try.ntmps55
  go_upto_region 1 with (first | ((with_reducible refine wpList_plain ?_ ?_); exact rfl; intro KK hKK; refine wp_st_box HS 29 (.tmp 0) rfl _ rfl (pktA k e s (.slice A n c)) (rfl) (fun g1 W1 HSx => hKK _ _ ?_); clear hKK KK HS; have HS : St w noF [⟨g1, 29, pktA k e s (.slice A n c)⟩] W1 := HSx; clear HSx))
  have c0 : W1.cell? ⟨g1, 0, none⟩ = some (.int .i64 k) := (HS.row 0 rfl).get rfl
  have c3 : W1.cell? ⟨g1, 3, none⟩ = some (.slice A n c) := (HS.row 0 rfl).get rfl
  have HB := Lib.hid HS.below
  have C := Lib.hid (walgood_any l _ W1 (HV.out.below HS.below (Nat.le_refl _)) HL.out)
  clear HS
  by_cases h12 : k = 1 ∨ k = 2
  · have hG : goodB (l.map (·.1)) = G := by rw [← HG.out, if_pos h12]
    have C := C.out
    rw [hG] at C
    clear hG HG
    rcases h12 with rfl | rfl
    all_goals
      go_wp2_with fail
      refine C.mono ?_
      rintro x w2 ⟨rfl, hb⟩
      have HB2 := Lib.hid (HB.out.trans (hb.mono HB.out.size))
      clear hb C
      go_wp2_with fail
      go_ret
      exact ⟨rfl, HB2.out⟩
  by_cases h34 : k = 3 ∨ k = 4
  · have hG : decide (n = 0) = G := by rw [← HG.out, if_neg h12, if_pos h34, HN.out]
    clear HG C
    cases n with
    | zero =>
      rw [decide_eq_true rfl] at hG
      subst hG
      rcases h34 with rfl | rfl
      all_goals
        go_wp2_with fail
        go_ret
        exact ⟨rfl, HB.out⟩
    | succ n =>
      rw [decide_eq_false (Nat.succ_ne_zero n)] at hG
      subst hG
      have hq : ((n + 1 : Nat) : Int) ≠ 0 := by omega
      rcases h34 with rfl | rfl
      all_goals
        go_wp2_with fail
        go_ret
        exact ⟨rfl, HB.out⟩
  have hG : false = G := by rw [← HG.out, if_neg h12, if_neg h34]
  subst hG
  have h1 : k ≠ 1 := fun h => h12 (.inl h)
  have h2 : k ≠ 2 := fun h => h12 (.inr h)
  have h3 : k ≠ 3 := fun h => h34 (.inl h)
  have h4 : k ≠ 4 := fun h => h34 (.inr h)
  clear HG C h12 h34
  go_wp2_with fail
  go_ret
  exact ⟨rfl, HB.out⟩
set_option maxHeartbeats 800000 in
theorem headof_any (k : Int) (e s : BitVec 32) (A : Option Addr) (n c : Nat) (w : World) : Calls Try.prog 56 #[.agg (pktA k e s (.slice A n c))] w fun x w' => x = .returned (.agg (headA k e s n)) ∧ Below w.heap.size w w' := by
  have HS := St.nil w noF
  go_enter Try.func56, Try.ntmps56
  go_upto_region 1 with (first | ((with_reducible refine wpList_plain ?_ ?_); exact rfl; intro KK hKK; refine wp_st_box HS 29 (.tmp 0) rfl _ rfl (pktA k e s (.slice A n c)) (rfl) (fun g1 W1 HSx => hKK _ _ ?_); clear hKK KK HS; have HS : St w noF [⟨g1, 29, pktA k e s (.slice A n c)⟩] W1 := HSx; clear HSx) | ((with_reducible refine wpList_plain ?_ ?_); exact rfl; intro KK hKK; refine wp_st_alloc HS 88 (headA 0 0#32 0#32 0) rfl (.agg (headA 0 0#32 0#32 0)) (by kernel_rfl) (rfl) (fun g2 W2 HSx => hKK _ _ ?_); clear hKK KK HS; have HS : St w noF [⟨g1, 29, pktA k e s (.slice A n c)⟩, ⟨g2, 88, headA 0 0#32 0#32 0⟩] W2 := HSx; clear HSx))
  have c0 : W2.cell? ⟨g1, 0, none⟩ = some (.int .i64 k) := (HS.row 0 rfl).get rfl
  have c1 : W2.cell? ⟨g1, 1, none⟩ = some (.int .u32 (wd e)) := (HS.row 0 rfl).get rfl
  have c2 : W2.cell? ⟨g1, 2, none⟩ = some (.int .u32 (wd s)) := (HS.row 0 rfl).get rfl
  have c3 : W2.cell? ⟨g1, 3, none⟩ = some (.slice A n c) := (HS.row 0 rfl).get rfl
  go_wp2_with (first | ((with_reducible refine wpList_plain ?_ ?_); exact rfl; intro KK hKK; refine wp_st_store HS 1 0 88 (.tmp 2) (.tmp 13) rfl rfl rfl (.agg (headA k e s n)) rfl (by exact size_head) (Nat.le_refl 4) (head_one ..) (headA k e s n) (by exact spl_agg _ _ _ rfl rfl) (fun W3 HSx => hKK _ _ ?_); clear hKK KK HS; have HS : St w noF [⟨g1, 29, pktA k e s (.slice A n c)⟩, ⟨g2, 88, headA k e s n⟩] W3 := HSx; clear HSx))
  refine bodyPost_ret (results_cell_row Try.results56 _ _ g2 88 (headA k e s n) (0, 0) _ rfl (HS.row 1 rfl) Try.underlying88 rfl (by exact size_head)) rfl ?_
  exact ⟨rfl, HS.below⟩
set_option maxHeartbeats 1600000 in
theorem headbytes_any (k : Int) (e s : BitVec 32) (n : Nat) (w : World) : Calls Try.prog 57 #[.agg (headA k e s n)] w fun x w' => ∃ v, x = .returned v ∧ w'.ownsRow w.heap.size 5 1 v 10 (bytesV (hdB k e s n)) ∧ Below w.heap.size w w' := by
  have HS := St.nil w noF
  go_enter Try.func57, Try.ntmps57
  go_upto_region 1 with (first | ((with_reducible refine wpList_plain ?_ ?_); exact rfl; intro KK hKK; refine wp_st_box HS 88 (.tmp 0) rfl _ rfl (headA k e s n) (rfl) (fun g1 W1 HSx => hKK _ _ ?_); clear hKK KK HS; have HS : St w noF [⟨g1, 88, headA k e s n⟩] W1 := HSx; clear HSx))
  obtain ⟨B0, hB0⟩ : ∃ B0, W1.heap.size = B0 := ⟨_, rfl⟩
  have HB0 := Lib.hid hB0
  have HSW := Lib.hid HS
  have c0 : W1.cell? ⟨g1, 0, none⟩ = some (.int .i64 k) := (HS.row 0 rfl).get rfl
  have hw0 : IntKind.u8.wrap k = bd (byteP k) := wrap_u8_bd k
  have OW := own_litq W1 [byteP k] (by unfold maxLen; simp)
  have HBA := Lib.hid ((Below.refl W1.heap.size W1).alloc (Nat.le_refl _) (.cells #[.int .u8 (bd (byteP k))] 5))
  clear HS
  rw [hB0] at OW HBA
  have HOW : Hid ((W1.alloc (.cells #[.int .u8 (bd (byteP k))] 5)).ownsRow B0 5 1 (.slice (some ⟨B0, 0, none⟩) 1 1) [byteP k].length (bytesV [byteP k])) := Lib.hid OW
  clear OW hB0
  go_upto_region 2 with fail
  rw [HB0.out]
  generalize W1.alloc (.cells #[.int .u8 (bd (byteP k))] 5) = W13 at *
  have HS13 := Lib.hid (HSW.out.same (by rw [HB0.out]; exact HBA.out))
  have c1 : W13.cell? ⟨g1, 1, none⟩ = some (.int .u32 (wd e)) := (HS13.out.row 0 rfl).get rfl
  have C := applong_any B0 [byteP k] e _ W13 HOW.out (Nat.le_trans (Nat.le_of_eq HB0.out.symm) HBA.out.size) (Nat.le_of_ble_eq_true rfl)
  clear HOW HS13 c0 hw0
  go_wp2_with fail
  refine C.mono ?_
  rintro x W16 ⟨v7, rfl, h7, b7⟩
  have HB8 := Lib.hid (HBA.out.trans b7)
  clear C c1 b7 HBA
  have HS16 := Lib.hid (HSW.out.same (by rw [HB0.out]; exact HB8.out))
  have c2 : W16.cell? ⟨g1, 2, none⟩ = some (.int .u32 (wd s)) := (HS16.out.row 0 rfl).get rfl
  have C := applong_any B0 ([byteP k] ++ four e) s v7 W16 h7 (Nat.le_trans (Nat.le_of_eq HB0.out.symm) HB8.out.size) (Nat.le_of_ble_eq_true rfl)
  clear h7 HS16
  go_wp2_with fail
  refine C.mono ?_
  rintro x W17 ⟨v8, rfl, h8, b8⟩
  have HB9 := Lib.hid (HB8.out.trans b8)
  have HO8 : Hid (W17.ownsRow B0 5 1 v8 9 (bytesV ([byteP k] ++ four e ++ four s))) := Lib.hid h8
  clear C c2 b8 HB8 h8
  have HS17 := Lib.hid (HSW.out.same (by rw [HB0.out]; exact HB9.out))
  have c3 : W17.cell? ⟨g1, 3, none⟩ = some (.int .i64 n) := (HS17.out.row 0 rfl).get rfl
  have hw3 : IntKind.u8.wrap (n : Int) = bd (byteP n) := wrap_u8_bd _
  have HP5 : Hid (Slice (W17.alloc (.cells #[.int .u8 (bd (byteP n))] 5)) (.slice (some ⟨W17.heap.size, 0, none⟩) 1 1) [byteP n]) := Lib.hid (row_slice (Row.fresh W17 5 (bs [byteP n])) (c := 1) (Nat.le_refl _))
  have HO9 := Lib.hid (HO8.out.alloc (.cells #[.int .u8 (bd (byteP n))] 5))
  have HBX := Lib.hid (HB9.out.alloc (by rw [← HB0.out]; exact HB9.out.size) (.cells #[.int .u8 (bd (byteP n))] 5))
  clear HS17 HO8
  go_wp2_with (at_builtin; refine wpList_append_slice rfl (.tmp 18) (.tmp 22) rfl B0 _ 9 _ rfl HO9.out (some ⟨W17.heap.size, 0, none⟩) 1 1 _ rfl HP5.out (fun h => by cases h) (by decide) (Nat.le_trans (Nat.le_of_eq HB0.out.symm) HBX.out.size) ?_; intro v6 W18 own6 hb6; rw [← bytesV_apps] at own6; have HO7 := Lib.hid own6; have HB7 := Lib.hid (HBX.out.trans hb6); clear own6 hb6)
  go_ret
  have hz : w.heap.size ≤ B0 := by rw [← HB0.out]; exact HSW.out.below.size
  exact ⟨_, rfl, own_base HO7.out hz, HSW.out.below.trans (HB7.out.mono hz)⟩
theorem prow_grown {w w' : World} {base e n g size : Nat} {t : TypeId} {v : Value} {xs : List Value} {cs : Array Value} (hr : Row w g t cs) (h : w.ownsRow base e size v n xs) (hne : e ≠ t) (hg : w.grownBy w' v.ownBlock) : Row w' g t cs :=
  (hg.block g hr.lt (fun e0 => own_apart h hr hne g e0.symm rfl)).trans hr
/- an append to a slice of bytes of one's own, and what it changes -/
theorem wpList_append_sliceG {w : World} {ops : Array Oper} {rest : List Oper} {o : Oper} {a : Act} {Q : Exit → Act → World → Prop} (hgd : o.guard = none) (s x : Operand)
    (ho : o.op = .call { callee := .builtin .append, args := #[s, x], argTypes := #[23, 23] }) (base : Nat)
    (v : Value) (n : Nat) (xs : List Value) (hs : a.eval s = v) (hown : w.ownsRow base 5 1 v n xs)
    (ad : Addr) (m c : Nat) (q : List (BitVec 8)) (hx : a.eval x = .slice (some ad) m c) (hq : Slice w (.slice (some ad) m c) q)
    (hnm : n + m ≤ 1000000000) (hbase : base ≤ w.heap.size)
    (h : ∀ v' w', w'.ownsRow base 5 1 v' (n + m) (xs ++ bytesV q) → Below base w w' → w.grownBy w' v.ownBlock → wpList Try.prog ops Q rest (a.put o.dst v') w') : wpList Try.prog ops Q (o :: rest) a w := by
  obtain ⟨i0, hi, hz0, hz1, hz2⟩ := info_parts info_u8
  have hblk : ∀ g, v.ownBlock = some g → base ≤ g := fun g hg => (hown.lt g hg).1
  obtain ⟨A', c', e1, _, h3⟩ := hq
  injection e1 with e1 e2 e3
  subst e1 e2 e3
  refine wpList_append_own w hgd s x 23 ho base 5 i0 (.int .u8 0) 1 1 Try.underlying23 hi hz0 hz1 hz2 rfl (by omega) v n xs hs hown ad q.length c (bytesV q) hx (by simp [bytesV]) ?_ (one_bytesV q) (by unfold maxLen; omega) (by omega) hbase ?_
  · intro j u hu
    have hne : q ≠ [] := by rintro rfl; simp [bytesV] at hu
    obtain ⟨b, o, h4, _, h6⟩ := h3 hne
    have h4 := Option.some.inj h4
    subst h4
    rw [Addr.add_mid]
    simp only [bytesV, List.getElem?_map, Option.map_eq_some_iff] at hu
    obtain ⟨y, hy, rfl⟩ := hu
    exact h6 j y hy
  · intro v' w' h1 h2 _
    exact h v' w' h1 (below_of_grown h2 hblk hbase) h2
theorem put_slice {w : World} {g : Nat} {t : TypeId} {D : Int} {q : List (BitVec 8)} (h : Row w g t (pcell (D, q)).toArray) (hq : q.length = 32) : Slice w (.slice (some ⟨g, 1, none⟩) 32 32) q := by
  refine ⟨some ⟨g, 1, none⟩, 32, by rw [hq], by rw [hq]; exact Nat.le_refl _, fun _ => ⟨g, 1, rfl, h.lt, fun j x hx => ?_⟩⟩
  refine h.get ?_
  rw [List.getElem?_toArray, show 1 + j = j + 1 by omega]
  show (bytesV q)[j]? = _
  simp [bytesV, hx]
set_option maxHeartbeats 800000 in
theorem pktenc_bad (p : Pkt) (v : Value) (w : World) (hv : PutsAt w v p.l) (hl : p.l.length ≤ maxLen) (hc : mayP p = false) : Calls Try.prog 35 #[.agg (pktA p.k p.e p.s v)] w fun x w' => x = .returned (.tuple #[.slice none 0 0, .int .i64 11]) ∧ Below w.heap.size w w' := by
  have C := Lib.hid (fun W (hb : Below w.heap.size w W) => pmay_any p v W (hv.below hb (Nat.le_refl _)) hl)
  rw [hc] at C
  obtain ⟨k, e, s, l⟩ := p
  obtain ⟨A, n, c, rfl, hn, _⟩ := puts_form hv
  clear hc hv hl hn
  have HS := St.nil w noF
  go_enter Try.func35, Try.ntmps35
  go_upto_region 1 with (first | ((with_reducible refine wpList_plain ?_ ?_); exact rfl; intro KK hKK; refine wp_st_box HS 29 (.tmp 0) rfl _ rfl (pktA k e s (.slice A n c)) (rfl) (fun g1 W1 HSx => hKK _ _ ?_); clear hKK KK HS; have HS : St w noF [⟨g1, 29, pktA k e s (.slice A n c)⟩] W1 := HSx; clear HSx))
  have HB := Lib.hid HS.below
  go_wp2_with (first | ((with_reducible refine wpList_plain ?_ ?_); exact rfl; intro KK hKK; refine wp_st_load HS 0 0 29 (.tmp 1) rfl rfl rfl (pktA k e s (.slice A n c)) (slab_whole _) _ Try.underlying29 rfl (by exact size_pkt) (hKK _ _ ?_); clear hKK KK))
  refine (C.out _ HB.out).mono ?_
  rintro x w1 ⟨rfl, hb⟩
  have HB2 := Lib.hid (HB.out.trans (hb.mono HB.out.size))
  clear HS hb C
  go_wp2_with fail
  go_ret2
  exact ⟨rfl, HB2.out⟩
set_option maxHeartbeats 3200000 in
theorem pktenc_good (p : Pkt) (v : Value) (w : World) (hv : PutsAt w v p.l) (hc : mayP p = true) :
    Calls Try.prog 35 #[.agg (pktA p.k p.e p.s v)] w fun x w' => ∃ v', x = .returned (.tuple #[v', .int .i64 0]) ∧ w'.ownsRow w.heap.size 5 1 v' (encP p).length (bytesV (encP p)) ∧ Below w.heap.size w w' := by
  have hn5 := mayP_len hc
  have C := Lib.hid (fun W (hb : Below w.heap.size w W) => pmay_any p v W (hv.below hb (Nat.le_refl _)) (by unfold maxLen; omega))
  rw [hc] at C
  have h32 : ∀ x ∈ p.l, x.2.length = 32 := by obtain ⟨_, _, _, _, h, _⟩ := hv; exact fun x hx => (h x hx).1
  have HLB := Lib.hid (length_bodyP h32)
  have HLE := Lib.hid (length_encP h32)
  obtain ⟨Z, hZ⟩ : ∃ Z, encP p = Z := ⟨_, rfl⟩
  obtain ⟨Y, hY⟩ : ∃ Y, bodyP p = Y := ⟨_, rfl⟩
  have HZ : Hid (Z = Y ++ two (crcOf Y)) := Lib.hid (by rw [← hZ, ← hY]; rfl)
  rw [hZ] at HLE ⊢
  rw [hY] at HLB
  obtain ⟨k, e, s, l⟩ := p
  obtain ⟨A, n, c, rfl, hn, _⟩ := puts_form hv
  simp only at hv hn5 hY HLB HLE h32
  have HY : Hid (hdB k e s n ++ (l.map putB).flatten = Y) := Lib.hid (by rw [← hn]; exact hY)
  rw [hn] at HLB HLE hn5
  have HV := Lib.hid hv
  have HN := Lib.hid hn
  have HN5 := Lib.hid hn5
  have H32 := Lib.hid h32
  clear hv hc hn hn5 hZ hY h32
  have HS := St.nil w noF
  go_enter Try.func35, Try.ntmps35
  go_upto_region 1 with (first | ((with_reducible refine wpList_plain ?_ ?_); exact rfl; intro KK hKK; refine wp_st_box HS 29 (.tmp 0) rfl _ rfl (pktA k e s (.slice A n c)) (rfl) (fun g1 W1 HSx => hKK _ _ ?_); clear hKK KK HS; have HS : St w noF [⟨g1, 29, pktA k e s (.slice A n c)⟩] W1 := HSx; clear HSx))
  have HB := Lib.hid HS.below
  go_wp2_with (first | ((with_reducible refine wpList_plain ?_ ?_); exact rfl; intro KK hKK; refine wp_st_load HS 0 0 29 (.tmp 1) rfl rfl rfl (pktA k e s (.slice A n c)) (slab_whole _) _ Try.underlying29 rfl (by exact size_pkt) (hKK _ _ ?_); clear hKK KK))
  refine (C.out _ HB.out).mono ?_
  rintro x w1 ⟨rfl, hb⟩
  have HSx := HS.same hb
  clear HS hb C HB
  have HS := HSx
  clear HSx
  have CH := fun W => headof_any k e s A n c W
  have CB := fun W => headbytes_any k e s n W
  go_wp2_with (first | ((with_reducible refine wpList_plain ?_ ?_); exact rfl; intro KK hKK; refine wp_st_load HS 0 0 29 (.tmp 1) rfl rfl rfl (pktA k e s (.slice A n c)) (slab_whole _) _ Try.underlying29 rfl (by exact size_pkt) (hKK _ _ ?_); clear hKK KK))
  refine (CH _).mono ?_
  rintro x w2 ⟨rfl, hb⟩
  have HSx := HS.same hb
  clear HS hb CH
  have HS := HSx
  clear HSx
  go_wp2_with fail
  refine (CB _).mono ?_
  rintro x w3 ⟨v3, rfl, ho, hb⟩
  have HSx := HS.same hb
  have HO3 := Lib.hid (own_base ho HS.below.size)
  clear HS hb CB ho
  have HS := HSx
  clear HSx
  have c3 : w3.cell? ⟨g1, 3, none⟩ = some (.slice A n c) := (HS.row 0 rfl).get rfl
  have HB3 := Lib.hid HS.below
  clear HS
  go_wp2_with fail
  clear c3
  go_loopw [4, 16] (fun v i wr => ∃ j : Nat, j ≤ n ∧ i = .int .i64 j ∧ wr.ownsRow w.heap.size 5 1 v (10 + 33 * j) (bytesV (hdB k e s n ++ ((l.take j).map putB).flatten)) ∧ Below w.heap.size w wr) (fun _ i _ => n - (intOf i).toNat)
  case atStart => exact ⟨0, by omega, rfl, by rw [List.take_zero]; simpa using HO3.out, HB3.out⟩
  case round =>
    obtain ⟨j, hj, rfl, ho, hb⟩ := hrel
    obtain ⟨B4, c4, rfl, _⟩ := own_slice_form ho
    have HO := Lib.hid ho
    have HB := Lib.hid hb
    have hn5 := HN5.out
    clear ho hb
    by_cases hlt : j < n
    · obtain ⟨⟨D, q⟩, hx⟩ : ∃ x, l[j]? = some x := ⟨_, List.getElem?_eq_getElem (by rw [HN.out]; exact hlt)⟩
      have HTK : Hid (((l.take (j + 1)).map putB).flatten = ((l.take j).map putB).flatten ++ ([byteP D] ++ q)) := Lib.hid (by rw [List.take_add_one, hx]; simp [putB])
      obtain ⟨b, o, rfl, hbw, hr, hq, hlo, hhi⟩ := put_at_mem HV.out HN.out hx
      obtain ⟨O, hO⟩ : ∃ O, o + j * 33 = O := ⟨_, rfl⟩
      rw [hO] at hr
      have HRG : Hid (wr.rangeAt b O (pcell (D, q))) := Lib.hid fun i v hv => (HB.out.cell (p := ⟨b, O + i, none⟩) hbw).trans (hr i v hv)
      have HQ := Lib.hid hq
      have hk0 : (0 : Int) ≤ (j : Int) := by omega
      have hk1 : (j : Int) < (n : Int) := by omega
      clear hx hr hq
      have HS := St.nil wr noF
      go_upto_region 7 with (first | ((with_reducible refine wpList_plain ?_ ?_); exact rfl; intro KK hKK; refine wp_load_mid 43 (.tmp 18) rfl b O rfl (pcell (D, q)) _ HRG.out Try.underlying43 rfl (by rw [len_pcell HQ.out]; exact info_put33) (hKK _ _ ?_); clear hKK KK) | ((with_reducible refine wpList_plain ?_ ?_); exact rfl; intro KK hKK; refine wp_st_alloc HS 43 (zput0) rfl (.agg (zput0)) (by kernel_rfl) (rfl) (fun g6 W1 HSx => hKK _ _ ?_); clear hKK KK HS; have HS : St wr noF [⟨g6, 43, zput0⟩] W1 := HSx; clear HSx) | ((with_reducible refine wpList_plain ?_ ?_); exact rfl; intro KK hKK; refine wp_st_store HS 0 0 43 (.tmp 6) (.tmp 19) rfl rfl rfl (.agg (pcell (D, q)).toArray) rfl (by exact (size_pc HQ.out).symm ▸ info_put33) (by rw [Nat.zero_add]; exact Nat.le_of_eq ((size_pc HQ.out).trans size_zput.symm)) (one_pc (D, q)) ((pcell (D, q)).toArray) (spl_agg _ _ _ rfl (size_zput.trans (size_pc HQ.out).symm)) (fun W2 HSx => hKK _ _ ?_); clear hKK KK HS; have HS : St wr noF [⟨g6, 43, (pcell (D, q)).toArray⟩] W2 := HSx; clear HSx))
      have c0 : W2.cell? ⟨g6, 0, none⟩ = some (.int .i64 D) := (HS.row 0 rfl).get rfl
      have hw0 : IntKind.u8.wrap D = bd (byteP D) := wrap_u8_bd D
      have HRW : Hid (Row W2 g6 43 (pcell (D, q)).toArray) := Lib.hid (HS.row 0 rfl)
      have HBE := Lib.hid HS.below
      clear HS hk0 hk1 hO
      have HP5 : Hid (Slice (W2.alloc (.cells #[.int .u8 (bd (byteP D))] 5)) (.slice (some ⟨W2.heap.size, 0, none⟩) 1 1) [byteP D]) := Lib.hid (row_slice (Row.fresh W2 5 (bs [byteP D])) (c := 1) (Nat.le_refl _))
      have HB6 := Lib.hid ((HB.out.trans (HBE.out.mono HB.out.size)).alloc (HB.out.trans (HBE.out.mono HB.out.size)).size (.cells #[.int .u8 (bd (byteP D))] 5))
      have HO6 := Lib.hid ((owns_call HO.out HBE.out).alloc (.cells #[.int .u8 (bd (byteP D))] 5))
      go_upto_region 8 with (at_builtin; refine wpList_append_sliceG rfl (.tmp 20) (.tmp 24) rfl w.heap.size _ (10 + 33 * j) _ rfl HO6.out ⟨W2.heap.size, 0, none⟩ 1 1 _ rfl HP5.out (by omega) HB6.out.size ?_; intro v7 w7 own7 hb7 hg7; rw [← bytesV_apps] at own7; have HO7 := Lib.hid own7; have HB7 := Lib.hid (HB6.out.trans hb7); have HRX := Lib.hid (prow_grown (HRW.out.alloc (.cells #[.int .u8 (bd (byteP D))] 5)) HO6.out (by decide) hg7); clear own7 hb7 hg7 HP5 HO6 HB6)
      clear c0 hw0
      have HSL : Hid (Slice w7 (.slice (some ⟨g6, 1, none⟩) 32 32) q) := Lib.hid (put_slice HRX.out HQ.out)
      go_wp2_with (at_builtin; refine wpList_append_slice rfl (.tmp 26) (.tmp 28) rfl w.heap.size _ (10 + 33 * j + 1) _ rfl HO7.out (some ⟨g6, 1, none⟩) 32 32 q rfl HSL.out (fun h => by cases h) (by omega) HB7.out.size ?_; intro v8 w8 own8 hb8; rw [← bytesV_apps] at own8; have HO8 := Lib.hid own8; have HB8 := Lib.hid (HB7.out.trans hb8); clear own8 hb8)
      refine ⟨⟨j + 1, by omega, by go_num, ?_, HB8.out⟩, by simp [intOf]; omega⟩
      have h8 := HO8.out
      rw [HTK.out, show 10 + 33 * (j + 1) = 10 + 33 * j + 1 + 32 by omega]
      rw [List.append_assoc, List.append_assoc] at h8
      exact h8
    · obtain rfl : j = n := by omega
      have own5 := HO.out
      rw [List.take_of_length_le (by rw [HN.out]; exact Nat.le_refl _), HY.out] at own5
      have hs5 := own_slice (q := Y) (by rw [HLB.out]; exact own5)
      have HB6 := Lib.hid (HB.out.alloc HB.out.size (.cells #[.slice B4 (10 + 33 * j) c4] 23))
      have HO6 := Lib.hid (own5.alloc (.cells #[.slice B4 (10 + 33 * j) c4] 23))
      have CK := check_any [Y] _ _ (parts1 hs5) (by simp [maxLen]) (by have := HLB.out; simp [maxLen]; omega)
      rw [List.flatten_cons, List.flatten_nil, List.append_nil] at CK
      obtain ⟨K, hK⟩ : ∃ K, crcOf Y = K := ⟨_, rfl⟩
      rw [hK] at CK
      obtain ⟨w6, hw6⟩ : ∃ w6, wr.alloc (.cells #[.slice B4 (10 + 33 * j) c4] 23) = w6 := ⟨_, rfl⟩
      rw [hw6] at HB6 HO6 CK
      have CS := appshort_any w.heap.size Y K _ w6 (by rw [HLB.out]; exact HO6.out) HB6.out.size (by rw [HLB.out]; omega)
      have HKZ : Hid (Y ++ two K = Z) := Lib.hid (by rw [HZ.out, hK])
      clear own5 hs5 hK HO
      go_wp2_with fail
      refine CK.mono ?_
      rintro x w7 ⟨rfl, rfl⟩
      clear CK
      go_wp2_with fail
      refine CS.mono ?_
      rintro x w8 ⟨v8, rfl, h8, b8⟩
      rw [HKZ.out, HLB.out] at h8
      have HO8 := Lib.hid h8
      have HB8 := Lib.hid (HB6.out.trans b8)
      clear CS h8 b8
      go_wp2_with fail
      go_ret2
      exact ⟨_, rfl, by rw [HLE.out, show 12 + 33 * j = 10 + 33 * j + 2 by omega]; exact HO8.out, HB8.out⟩
end Go.Proofs.Ytbdpocbnkgckhaa

/- Arguments that are records opened. -/
set_option maxRecDepth 4000
namespace Go.Proofs.Ytbdpocbnkgckhaa
open Go Go.ChangeShapes Go.WideShapes Go.ChangeAt Go.RowKit
end Go.Proofs.Ytbdpocbnkgckhaa
