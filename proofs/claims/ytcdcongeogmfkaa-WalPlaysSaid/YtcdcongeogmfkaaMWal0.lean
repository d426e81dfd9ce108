/- Merged: WalSpec WalRefG WalPut WalRefP WalRefR WalRefN WalIf WalOpen WalStep WalOwn WalGd WalPure WalPure2 WalPure0 WalPrgG WalPrgW WalPrgP WalPrgR WalPrg. -/
import Derived.Deep.Cut
import Derived.Test.YtcdcongeogmfkaaMLabel0
import Derived.Test.YtcdcongeogmfkaaMSeal0
import Derived.Test.YtcdcongeogmfkaaMDisk0
import Derived.Test.YtcdcongeogmfkaaMGen0
/- An op's record and the log as plain data: which puts may be, the header's bytes, what Put makes of a disk, what Get tells of one. No program is named here. -/
set_option maxRecDepth 4000
namespace Go.Proofs.Ytcdcongeogmfkaa
structure Rec where
  e : BitVec 32
  s : BitVec 32
  l : List (Int × List (BitVec 8))
deriving DecidableEq
def rec0 : Rec := ⟨0#32, 0#32, []⟩
def Rec.ats (r : Rec) : List Int := r.l.map (·.1)
def mayB (M : DiskM) (f : Int) : Bool := decide (0 ≤ f) && decide (f + 6 ≤ (M.s.length : Int))
def byteOf (i : Int) : BitVec 8 := BitVec.ofInt 8 i
def headOf (e s : BitVec 32) (l : List Int) : List (BitVec 8) := le e 4 ++ le s 4 ++ [byteOf (l.length : Int)] ++ l.map byteOf
def headB (e s : BitVec 32) (l : List Int) : List (BitVec 8) := sealedB 0x57#8 (headOf e s l)
def orElse (a : Int × DiskM) (k : DiskM → Int × DiskM) : Int × DiskM := if a.1 = 0 then k a.2 else a
def imgs (M : DiskM) (f : Int) : List (List (BitVec 8)) → Int × DiskM
  | [] => (0, M)
  | b :: l => orElse (M.wRes f b) fun M => imgs M (f + 1) l
def walPut (M : DiskM) (f : Int) (r : Rec) : Int × DiskM :=
  if mayB M f && goodB r.ats then orElse (imgs M (f + 1) (r.l.map (·.2))) fun M => orElse M.fRes fun M => orElse (M.wRes f (headB r.e r.s r.ats)) fun M => M.fRes else (1, M)
/- what a header's sector tells -/
def cnt (h : List (BitVec 8)) : Nat := ((bodyOf h).getD 8 0#8).toNat
def atsOf (h : List (BitVec 8)) : List Int := (List.range (cnt h)).map fun k => (((bodyOf h).getD (9 + k) 0#8).toNat : Int)
def isHead (h : List (BitVec 8)) : Bool := decOk h && (decide (markOf h = 0x57#8) && decide (cnt h ≤ 5)) && (decide (∀ i < 20 - cnt h, (bodyOf h).getD (9 + cnt h + i) 0#8 = 0#8) && goodB (atsOf h))
def recAt (M : DiskM) (f : Nat) : Rec := ⟨num ((bodyOf (M.now f)).take 4), num (((bodyOf (M.now f)).drop 4).take 4), (List.range (cnt (M.now f))).map fun k => ((((bodyOf (M.now f)).getD (9 + k) 0#8).toNat : Int), M.now (f + 1 + k))⟩
def walGet (M : DiskM) (f : Int) : Rec × Int :=
  if mayB M f then (if M.down then (rec0, 20) else if isHead (M.now f.toNat) then (recAt M f.toNat, 0) else (rec0, 11)) else (rec0, 1)
theorem fRes_l (M : DiskM) : M.fRes.2.l.length ≤ M.l.length := by
  unfold DiskM.fRes
  split
  · exact Nat.le_refl _
  · exact Nat.zero_le _
theorem fRes_s (M : DiskM) : M.fRes.2.s.length = M.s.length := by
  unfold DiskM.fRes
  split
  · rfl
  · exact DiskM.length_put _ _
theorem length_headOf (e s : BitVec 32) (l : List Int) : (headOf e s l).length = 9 + l.length := by
  unfold headOf
  rw [List.length_append, List.length_append, List.length_append, length_le, length_le, List.length_map]; rfl
theorem enc_head {e s : BitVec 32} {l : List Int} (h : l.length ≤ 5) : encB 0x57#8 (headOf e s l) = headB e s l ∧ encE 0x57#8 (headOf e s l) = 0 := by
  have hb : encBad 0x57#8 (headOf e s l) = false := by unfold encBad; rw [length_headOf, decide_eq_false (show ¬ 29 < 9 + l.length by omega)]; rfl
  exact ⟨encB_good hb, encE_good hb⟩
theorem length_headB {e s : BitVec 32} {l : List Int} (h : l.length ≤ 5) : (headB e s l).length = 32 := length_sealedB (by rw [length_headOf]; omega)
end Go.Proofs.Ytcdcongeogmfkaa

/- The document's: which puts may be an op's, and where a log may stand. -/
set_option maxRecDepth 4000
namespace Go.Proofs.Ytcdcongeogmfkaa
open Go Go.RowKit
set_option maxHeartbeats 400000 in
theorem refmay_any (base : Nat) (w : World) (p : Value) (M : DiskM) (F : Nat → Prop) (f : Int) (h : RefAt base w p M F) (hf : -9223372036854775808 ≤ f ∧ f < 9223372036854775808) :
    Calls Try.prog 33 #[p, .int .i64 f] w fun e w' => e = .returned (.bool (mayB M f)) ∧ w = w' := by
  obtain ⟨g, vs, vl, rfl, h, rfl⟩ := h
  have k0 := h.row.get (i := 0) rfl
  obtain ⟨A, c, rfl, _⟩ := own_slice_form h.sec
  have hh := h.ok.hi
  have HU : Hid (mayB M f = (decide (0 ≤ f) && decide (f + 6 ≤ (M.s.length : Int)))) := Lib.hid rfl
  generalize mayB M f = t at *
  generalize M.s.length = n at *
  clear h
  go_enter Try.func33, Try.ntmps33
  by_cases h0 : 0 ≤ f
  · have d0 : decide (0 ≤ f) = true := decide_eq_true h0
    by_cases h1 : f ≤ (n : Int)
    · have d1 : decide (f ≤ (n : Int)) = true := decide_eq_true h1
      have e1 : IntKind.i64.wrap ((n : Int) - f) = (n : Int) - f := i64_id _ (by omega) (by omega)
      by_cases h2 : 6 ≤ (n : Int) - f
      · have d2 : decide (6 ≤ (n : Int) - f) = true := decide_eq_true h2
        have hT : t = true := by rw [HU.out, d0, decide_eq_true (by omega)]; rfl
        go_wp2_with fail
        go_ret
        exact ⟨by first | rfl | (rw [hT]; rfl), rfl⟩
      · have d2 : decide (6 ≤ (n : Int) - f) = false := decide_eq_false h2
        have hT : t = false := by rw [HU.out, decide_eq_false (show ¬ f + 6 ≤ (n : Int) by omega), Bool.and_false]
        go_wp2_with fail
        go_ret
        exact ⟨by first | rfl | (rw [hT]; rfl), rfl⟩
    · have d1 : decide (f ≤ (n : Int)) = false := decide_eq_false h1
      have hT : t = false := by rw [HU.out, decide_eq_false (show ¬ f + 6 ≤ (n : Int) by omega), Bool.and_false]
      go_wp2_with fail
      go_ret
      exact ⟨by first | rfl | (rw [hT]; rfl), rfl⟩
  · have d0 : decide (0 ≤ f) = false := decide_eq_false h0
    have hT : t = false := by rw [HU.out, d0, Bool.false_and]
    go_wp2_with fail
    go_ret
    exact ⟨by first | rfl | (rw [hT]; rfl), rfl⟩
end Go.Proofs.Ytcdcongeogmfkaa

/- The disk while a log is written: the document's disk beside a record and its puts. -/
set_option maxRecDepth 4000
namespace Go.Proofs.Ytcdcongeogmfkaa
open Go Go.RowKit
theorem PutsAt.chg {w w' : World} {v : Value} {l : List (Int × List (BitVec 8))} {F : Nat → Prop} (h : PutsAt w v l) (c : Chg F w w') (hA : ∀ k, v.ownBlock = some k → ¬ F k) : PutsAt w' v l := by
  obtain ⟨A, n, rfl, h2, h3, h4⟩ := h
  refine ⟨A, n, rfl, h2, h3, fun hne => ?_⟩
  obtain ⟨b, o, rfl, h6, h7⟩ := h4 hne
  refine ⟨b, o, rfl, Nat.lt_of_lt_of_le h6 c.size, fun k x hx j u hu => ?_⟩
  have := h7 k x hx j u hu
  rw [← this]
  unfold World.cell?
  rw [c.block b h6 (hA b rfl)]
theorem ref_apart {base b n : Nat} {w : World} {p v : Value} {M : DiskM} {F : Nat → Prop} {xs : List Value} {e : TypeId} {size : Nat} (h : RefAt base w p M F) (ho : w.ownsRow b e size v n xs) (h1 : e ≠ 61) (h2 : e ≠ 52) (h3 : e ≠ 95) : ∀ k, v.ownBlock = some k → ¬ F k := by
  obtain ⟨g, vs, vl, rfl, h, rfl⟩ := h
  rintro k hk (rfl | hf | hf)
  · exact own_apart ho h.row h1 k hk rfl
  · exact own_apart2 ho h.sec h2 k hk hf
  · exact own_apart2 ho h.loo h3 k hk hf
theorem ref_row_apart {base g : Nat} {w : World} {p : Value} {M : DiskM} {F : Nat → Prop} {t : TypeId} {cs : Array Value} (h : RefAt base w p M F) (r : Row w g t cs) (h1 : t ≠ 61) (h2 : t ≠ 52) (h3 : t ≠ 95) : ¬ F g := by
  obtain ⟨g0, vs, vl, rfl, h, rfl⟩ := h
  rintro (rfl | hf | hf)
  · have := h.row.symm.trans r
    injection this with this
    injection this with _ this _
    exact h1 this.symm
  · exact own_apart h.sec r (Ne.symm h2) g hf rfl
  · exact own_apart h.loo r (Ne.symm h3) g hf rfl
structure PutSt (base : Nat) (w : World) (p : Value) (F : Nat → Prop) (g5 : Nat) (t5 : TypeId) (C : Array Value) (v : Value) (l : List (Int × List (BitVec 8))) (M : DiskM) (wr : World) : Prop where
  disk : ∃ Fk, RefAt base wr p M Fk ∧ ∀ j, Fk j → F j ∨ w.heap.size ≤ j
  chg : Chg F w wr
  row : Row wr g5 t5 C
  puts : PutsAt wr v l
theorem PutSt.same {base : Nat} {w wr w' : World} {p v : Value} {F : Nat → Prop} {g5 : Nat} {t5 : TypeId} {C : Array Value} {l : List (Int × List (BitVec 8))} {M : DiskM} (h : PutSt base w p F g5 t5 C v l M wr) (hb : Below wr.heap.size wr w') : PutSt base w p F g5 t5 C v l M w' := by
  obtain ⟨Fk, h1, h2⟩ := h.disk
  exact ⟨⟨Fk, ref_keep h1 (Chg.of_below (F := fun _ => False) hb) (fun _ _ => id), h2⟩, h.chg.trans (F' := fun _ => False) (Chg.of_below hb) (fun _ h => h.elim), h.row.call hb, h.puts.below hb (Nat.le_refl _)⟩
theorem PutSt.step {base : Nat} {w wr w' : World} {p v : Value} {F Fk F' : Nat → Prop} {g5 : Nat} {t5 : TypeId} {C : Array Value} {l : List (Int × List (BitVec 8))} {M M' : DiskM} (h : PutSt base w p F g5 t5 C v l M wr)
    (hA : ∀ k, v.ownBlock = some k → k < w.heap.size ∧ ¬ F k) (ht1 : t5 ≠ 61) (ht2 : t5 ≠ 52) (ht3 : t5 ≠ 95)
    (hk : RefAt base wr p M Fk) (hsub : ∀ j, Fk j → F j ∨ w.heap.size ≤ j) (h1 : RefAt base w' p M' F') (h2 : Chg Fk wr w') (h3 : ∀ k, F' k → Fk k ∨ wr.heap.size ≤ k) : PutSt base w p F g5 t5 C v l M' w' :=
  ⟨⟨F', h1, fun j hj => (h3 j hj).elim (hsub j) (fun hle => .inr (Nat.le_trans h.chg.size hle))⟩, h.chg.trans h2 hsub, h.row.chg h2 (ref_row_apart hk h.row ht1 ht2 ht3),
    h.puts.chg h2 (fun k hv hf => by have := hA k hv; rcases hsub k hf with h4 | h4; exact this.2 h4; omega)⟩
/- bytes appended to a slice of the call's own: nothing but its own block changes -/
theorem wpList_append_grown {w : World} {ops : Array Oper} {rest : List Oper} {o : Oper} {a : Act} {Q : Exit → Act → World → Prop} (hgd : o.guard = none) (s x : Operand)
    (ho : o.op = .call { callee := .builtin .append, args := #[s, x], argTypes := #[37, 37] }) (base : Nat)
    (v : Value) (n : Nat) (xs : List Value) (hs : a.eval s = v) (hown : w.ownsRow base 5 1 v n xs)
    (ad : Addr) (m c : Nat) (q : List (BitVec 8)) (hx : a.eval x = .slice (some ad) m c) (hq : Slice w (.slice (some ad) m c) q)
    (hnm : n + m ≤ 1000000000) (hbase : base ≤ w.heap.size)
    (h : ∀ v' w', w'.ownsRow base 5 1 v' (n + m) (xs ++ bytesV q) → w.grownBy w' v.ownBlock → wpList Try.prog ops Q rest (a.put o.dst v') w') : wpList Try.prog ops Q (o :: rest) a w := by
  obtain ⟨i0, hi, hz0, hz1, hz2⟩ := info_parts info_u8
  obtain ⟨A', c', e1, _, h3⟩ := hq
  injection e1 with e1 e2 e3
  subst e1 e2 e3
  refine wpList_append_own w hgd s x 37 ho base 5 i0 (.int .u8 0) 1 1 Try.underlying37 hi hz0 hz1 hz2 rfl (by omega) v n xs hs hown ad q.length c (bytesV q) hx (by simp [bytesV]) ?_ (one_bytesV q) (by unfold maxLen; omega) (by omega) hbase ?_
  · intro j u hu
    have hne : q ≠ [] := by rintro rfl; simp [bytesV] at hu
    obtain ⟨b, o, h4, _, h6⟩ := h3 hne
    have h4 := Option.some.inj h4
    subst h4
    rw [Addr.add_mid]
    simp only [bytesV, List.getElem?_map, Option.map_eq_some_iff] at hu
    obtain ⟨y, hy, rfl⟩ := hu
    exact h6 j y hy
  · intro v' w' h1 h2 _
    exact h v' w' h1 h2
theorem PutSt.grown {base n : Nat} {w wr w' : World} {p v u : Value} {F : Nat → Prop} {g5 : Nat} {t5 : TypeId} {C : Array Value} {l : List (Int × List (BitVec 8))} {M : DiskM} {xs : List Value} (h : PutSt base w p F g5 t5 C v l M wr)
    (ho : wr.ownsRow w.heap.size 5 1 u n xs) (ht : 5 ≠ t5) (hA : ∀ k, v.ownBlock = some k → k < w.heap.size) (hg : wr.grownBy w' u.ownBlock) : PutSt base w p F g5 t5 C v l M w' := by
  obtain ⟨Fk, h1, h2⟩ := h.disk
  have c : Chg (fun k => u.ownBlock = some k) wr w' := (Chg.refl _ wr).grown hg (fun k hk => .inl hk)
  refine ⟨⟨Fk, ref_keep h1 c (fun k hk hu => ref_apart h1 ho (by decide) (by decide) (by decide) k hu hk), h2⟩, h.chg.trans c (fun k hk => .inr (ho.lt k hk).1), h.row.chg c (fun hu => own_apart ho h.row ht g5 hu rfl), h.puts.chg c (fun k hv hu => ?_)⟩
  have := hA k hv
  have := (ho.lt k hu).1
  omega
end Go.Proofs.Ytcdcongeogmfkaa

/- The document's Put. -/
set_option maxRecDepth 4000
namespace Go.Proofs.Ytcdcongeogmfkaa
open Go Go.RowKit
theorem bytesV_app2 (p q : List (BitVec 8)) : bytesV (p ++ q) = bytesV p ++ bytesV q := by simp [bytesV]
set_option maxRecDepth 20000 in
set_option maxHeartbeats 1600000 in
theorem refwput_any (base : Nat) (w : World) (p : Value) (M : DiskM) (F : Nat → Prop) (f : Int) (e0 s0 : BitVec 32) (A : Option Addr) (c : Nat) (l : List (Int × List (BitVec 8))) (ee : Int) (h : RefAt base w p M F) (hf : -9223372036854775808 ≤ f ∧ f < 9223372036854775808)
    (hv : PutsAt w (.slice A l.length c) l) (hl : l.length ≤ maxLen) (hA : l ≠ [] → ∀ k, (Value.slice A l.length c).ownBlock = some k → k < w.heap.size ∧ ¬ F k) (hM : M.l.length + 10 ≤ few) :
    Calls Try.prog 13 #[p, .int .i64 f, .agg #[.int .u32 (wd e0), .int .u32 (wd s0), .slice A l.length c, .int .i64 ee]] w (Acts RefAt base w p F (walPut M f ⟨e0, s0, l⟩).2 (.int .i64 (walPut M f ⟨e0, s0, l⟩).1)) := by
  obtain ⟨n, hn⟩ : ∃ n, l.length = n := ⟨_, rfl⟩
  have HN := Lib.hid hn
  rw [hn] at hv hA ⊢
  have HA0 := Lib.hid hA
  have HP1 : Hid (PutSt base w p F w.heap.size 43 #[.int .u32 (wd e0), .int .u32 (wd s0), .slice A n c, .int .i64 ee] (.slice A n c) l M (w.alloc (.cells #[.int .u32 (wd e0), .int .u32 (wd s0), .slice A n c, .int .i64 ee] 43))) := Lib.hid ⟨⟨F, ref_keep h (Chg.of_below (F := fun _ => False) (Same.alloc w _)) (fun _ _ => id), fun j hj => .inl hj⟩, (Chg.refl F w).alloc _, Row.fresh _ _ _, hv.below (Same.alloc w _) (Nat.le_refl _)⟩
  have HRES : Hid (walPut M f ⟨e0, s0, l⟩ = if mayB M f && goodB (l.map (·.1)) then orElse (imgs M (f + 1) (l.map (·.2))) fun M => orElse M.fRes fun M => orElse (M.wRes f (headB e0 s0 (l.map (·.1)))) fun M => M.fRes else (1, M)) := Lib.hid rfl
  obtain ⟨RES, hRES⟩ : ∃ R, walPut M f ⟨e0, s0, l⟩ = R := ⟨_, rfl⟩
  rw [hRES] at HRES ⊢
  have HF := Lib.hid hf
  clear hv hA h hRES hf hn
  go_enter Try.func13, Try.ntmps13
  go_upto_region 1 with fail
  obtain ⟨g5, hg5⟩ : ∃ g5, w.heap.size = g5 := ⟨_, rfl⟩
  have HG5 := Lib.hid hg5
  rw [hg5] at HP1
  rw [hg5]
  clear hg5
  generalize w.alloc (.cells #[.int .u32 (wd e0), .int .u32 (wd s0), .slice A n c, .int .i64 ee] 43) = W1 at *
  obtain ⟨Fk, hk, hsub⟩ := HP1.out.disk
  have C1 := refmay_any base W1 p M Fk f hk HF.out
  have k2 : W1.cell? ⟨g5, 2, none⟩ = some (.slice A n c) := HP1.out.row.get rfl
  have C2 := refgood_any l (.slice A n c) W1 HP1.out.puts hl
  clear hk hsub Fk
  go_wp2_with fail
  refine C1.mono ?_
  rintro e w1 ⟨rfl, rfl⟩
  clear C1
  cases hmay : mayB M f with
  | false =>
    have hR : RES = (1, M) := by rw [HRES.out, hmay]; rfl
    clear C2 hmay
    go_wp2_with fail
    go_ret
    obtain ⟨Fk, h1, h2⟩ := HP1.out.disk
    rw [hR]
    exact ⟨rfl, Fk, h1, HP1.out.chg, h2⟩
  | true =>
    go_wp2_with fail
    refine C2.mono ?_
    rintro e W2 ⟨rfl, hb⟩
    have HP2 := Lib.hid (HP1.out.same hb)
    clear C2 HP1 hb k2
    cases hgood : goodB (l.map (·.1)) with
    | false =>
      have hR : RES = (1, M) := by rw [HRES.out, hgood, Bool.and_false]; rfl
      clear hgood hmay
      go_wp2_with fail
      go_ret
      obtain ⟨Fk, h1, h2⟩ := HP2.out.disk
      rw [hR]
      exact ⟨rfl, Fk, h1, HP2.out.chg, h2⟩
    | true =>
      have HR : Hid (RES = orElse (imgs M (f + 1) (l.map (·.2))) fun M => orElse M.fRes fun M => orElse (M.wRes f (headB e0 s0 (l.map (·.1)))) fun M => M.fRes) := Lib.hid (by rw [HRES.out, hmay, hgood]; rfl)
      have HM6 : Hid (0 ≤ f ∧ f + 6 ≤ (M.s.length : Int)) := Lib.hid (by unfold mayB at hmay; simpa using hmay)
      have HN5 : Hid (1 ≤ n ∧ n ≤ 5) := Lib.hid (by unfold goodB at hgood; simp only [Bool.and_eq_true, decide_eq_true_eq, List.length_map] at hgood; have := HN.out; omega)
      have HA := Lib.hid (HA0.out (fun e => by have h1 := HN5.out.1; have h2 := HN.out; rw [e] at h2; simp at h2; omega))
      have HMB : Hid (M.s.length ≤ 1024 ∧ M.l.length + 10 ≤ few) := Lib.hid ⟨by obtain ⟨Fk, h1, _⟩ := HP2.out.disk; exact (ref_ok h1).hi, hM⟩
      clear hgood hmay HRES
      go_upto_region 3 with fail
      have HB0 : ∃ B0, Hid (W2.heap.size = B0) := ⟨_, Lib.hid rfl⟩
      obtain ⟨B0, HB0⟩ := HB0
      have HP := HP2
      clear HP2
      obtain ⟨W3, hW3⟩ : ∃ x, x = W2 := ⟨_, rfl⟩
      rw [← hW3] at HB0 HP ⊢
      clear hW3
      have hF0 : Wl [fun W => Below B0 W3 W, fun W => Below B0 W3 W] 0 W3.drew := (Below.refl _ _).drew
      refine wp_region_phs [is (.pointer (some ⟨g5, 0, none⟩)), is (.int .u32 (wd e0)), (fun v W => W.ownsRow B0 5 1 v 4 (bytesV (le e0 4))), is (.pointer (some ⟨g5, 1, none⟩)), is (.int .u32 (wd s0)), (fun v W => W.ownsRow B0 5 1 v 4 (bytesV (le s0 4))), (fun v W => W.ownsRow B0 5 1 v 8 (bytesV (le e0 4 ++ le s0 4))), (fun v W => W.ownsRow B0 5 1 v 8 (bytesV (le e0 4 ++ le s0 4)))] [true, true, false, true, true, false, false, false] [(fun W => Below B0 W3 W), (fun W => Below B0 W3 W)] [false, false, false, false, false, false, true, false] [some 0, some 0, some 0, some 0, some 0, some 0, some 0, some 1] [some 24, some 25, some 26, some 27, some 28, some 29, some 30, some 7] 8 1 (fun _ => true) rfl rfl (by kernel_rfl) (by kernel_rfl) (by kernel_rfl) (by kernel_rfl) ?_ ?_ ?_ ?_ ?_ ?_
      · repeat first | exact wok_nil | refine wok_cons (by first | exact fun _ _ h k => h.trans (k.mono (by rw [← HB0.out]; exact h.size))) ?_
      · repeat first | exact vok_nil | refine vok_rig (by first | exact fun _ _ _ h => h) ?_ | refine vok_soft (by first | exact fun _ _ _ h _ => h | exact fun _ _ _ h k => owns_call h k) ?_
      · exact hF0
      · repeat first | exact all_end (by decide) | refine all_cons (by first | exact rfl | exact ⟨rfl, fun _ _ h => Or.inl h⟩ | exact ⟨rfl, fun _ _ h => Or.inr ⟨h, rfl⟩⟩) ?_
      · refine allp_mild 0 rfl rfl rfl (fun a x W hout hin hP => ?_) ?_
        · have e5 : a.tmps[5]? = some (.pointer (some ⟨g5, 0, none⟩)) := (hout 5 (by kernel_rfl)).trans rfl
          clear hin hout
          intro K Q hK
          go_simp
          exact hK _ _ ⟨Same.refl _, rfl⟩
        refine allp_mild 0 rfl rfl rfl (fun a x W hout hin hP => ?_) ?_
        · have e24 := hin.is 0 24 (by kernel_rfl) (by decide) (by kernel_rfl) (by kernel_rfl) _ rfl
          have hc : W.cell? ⟨g5, 0, none⟩ = some (.int .u32 (wd e0)) := (HP.out.row.below hP (by rw [← HB0.out]; exact HP.out.row.lt)).get rfl
          clear hP
          clear hin hout
          intro K Q hK
          go_simp
          exact hK _ _ ⟨Same.refl _, rfl⟩
        refine allp_mild 0 rfl rfl rfl (fun a x W hout hin hP => ?_) ?_
        · have e25 := hin.is 1 25 (by kernel_rfl) (by decide) (by kernel_rfl) (by kernel_rfl) _ rfl
          have hbse : B0 ≤ W.heap.size := by rw [← HB0.out]; exact hP.size
          clear hP
          clear hin hout
          intro K Q hK
          go_simp
          refine (refput_any e0 4 W (by decide)).mono ?_
          rintro e W' ⟨u, rfl, hO, hb⟩
          exact hK _ _ ⟨hb, own_mono hO hbse⟩
        refine allp_mild 0 rfl rfl rfl (fun a x W hout hin hP => ?_) ?_
        · have e5 : a.tmps[5]? = some (.pointer (some ⟨g5, 0, none⟩)) := (hout 5 (by kernel_rfl)).trans rfl
          clear hin hout
          intro K Q hK
          go_simp
          exact hK _ _ ⟨Same.refl _, rfl⟩
        refine allp_mild 0 rfl rfl rfl (fun a x W hout hin hP => ?_) ?_
        · have e27 := hin.is 3 27 (by kernel_rfl) (by decide) (by kernel_rfl) (by kernel_rfl) _ rfl
          have hc : W.cell? ⟨g5, 1, none⟩ = some (.int .u32 (wd s0)) := (HP.out.row.below hP (by rw [← HB0.out]; exact HP.out.row.lt)).get rfl
          clear hP
          clear hin hout
          intro K Q hK
          go_simp
          exact hK _ _ ⟨Same.refl _, rfl⟩
        refine allp_mild 0 rfl rfl rfl (fun a x W hout hin hP => ?_) ?_
        · have e28 := hin.is 4 28 (by kernel_rfl) (by decide) (by kernel_rfl) (by kernel_rfl) _ rfl
          have hbse : B0 ≤ W.heap.size := by rw [← HB0.out]; exact hP.size
          clear hP
          clear hin hout
          intro K Q hK
          go_simp
          refine (refput_any s0 4 W (by decide)).mono ?_
          rintro e W' ⟨u, rfl, hO, hb⟩
          exact hK _ _ ⟨hb, own_mono hO hbse⟩
        refine allp_wild 0 rfl rfl rfl (fun a x W hout hin hP => ?_) ?_
        · obtain ⟨v26, e26, hv26⟩ := hin.get 2 26 (by kernel_rfl) (by decide) (by kernel_rfl) (.inr ⟨rfl, by kernel_rfl⟩)
          obtain ⟨v29, e29, hv29⟩ := hin.get 5 29 (by kernel_rfl) (by decide) (by kernel_rfl) (.inr ⟨rfl, by kernel_rfl⟩)
          have hI := own_item (q := le s0 4) (by rw [length_le]; exact hv29) (by rw [length_le]; decide)
          obtain ⟨A5, c5, rfl, hS5, hA5, _⟩ := hI
          rw [length_le] at e29 hS5
          have hbse : B0 ≤ W.heap.size := by rw [← HB0.out]; exact hP.size
          clear hin hout
          intro K Q hK
          refine wp_append_slice (.tmp 26) (.tmp 29) rfl B0 _ 4 _ (eval_of_get e26) hv26 A5 4 c5 (le s0 4) (eval_of_get e29) hS5 hA5 (by decide) hbse ?_
          intro v' W' hO' hb'
          rw [← bytesV_app2] at hO'
          exact hK _ _ ⟨hP.trans hb', hO'⟩
        refine allp_mild 1 rfl rfl rfl (fun a x W hout hin hP => ?_) ?_
        · obtain ⟨v30, e30, hv30⟩ := hin.get 6 30 (by kernel_rfl) (by decide) (by kernel_rfl) (.inr ⟨rfl, by kernel_rfl⟩)
          exact does_assign rfl e30 ⟨Same.refl _, hv30⟩
        exact all_end (by decide)
      · intro x V hP hV
        have hO3 := hV 7 (by decide) (.inr (by kernel_rfl))
        obtain ⟨v3, hv3⟩ : ∃ v3, x 7 = v3 := ⟨_, rfl⟩
        have hO3 : V.ownsRow B0 5 1 v3 8 (bytesV (le e0 4 ++ le s0 4)) := by rw [← hv3]; exact hO3
        have HBW : Hid (Below B0 W3 V) := Lib.hid hP
        have HP3 : Hid (PutSt base w p F g5 43 #[.int .u32 (wd e0), .int .u32 (wd s0), .slice A n c, .int .i64 ee] (.slice A n c) l M V) := Lib.hid (HP.out.same (by rw [HB0.out]; exact hP))
        have HO3 := Lib.hid hO3
        have HBV : Hid (B0 ≤ V.heap.size) := Lib.hid (by rw [← HB0.out]; exact hP.size)
        clear hV hP hO3
        simp only [putL, Act.put, List.setIfInBounds_toArray, List.set_cons_succ, List.set_cons_zero, hv3]
        refine wpAnyH_done (by kernel_rfl) ?_ _
        clear hv3
        have k2 : V.cell? ⟨g5, 2, none⟩ = some (.slice A n c) := HP3.out.row.get rfl
        have HR4 : Hid (Slice (V.alloc (.cells #[.int .u8 (bd (byteOf (n : Int)))] 5)) (.slice (some ⟨V.heap.size, 0, none⟩) 1 1) [byteOf (n : Int)]) := Lib.hid (row_slice (Row.fresh V 5 (bs [byteOf (n : Int)])) (c := 1) (Nat.le_refl _))
        have HO4 := Lib.hid (HO3.out.alloc (.cells #[.int .u8 (bd (byteOf (n : Int)))] 5))
        have HP4 := Lib.hid (HP3.out.same (Same.alloc V (.cells #[.int .u8 (bd (byteOf (n : Int)))] 5)))
        have HB4 : Hid (B0 ≤ (V.alloc (.cells #[.int .u8 (bd (byteOf (n : Int)))] 5)).heap.size) := Lib.hid (Nat.le_trans HBV.out (Same.alloc V _).size)
        have hcv : IntKind.u8.wrap (n : Int) = bd (byteOf (n : Int)) := wrap_u8_bd _
        clear HO3 HP3
        go_upto_region 5 with (at_builtin; refine wpList_append_slice rfl (.tmp 31) (.tmp 36) rfl B0 _ 8 _ rfl HO4.out (some ⟨V.heap.size, 0, none⟩) 1 1 _ rfl HR4.out (fun h => by cases h) (by omega) HB4.out ?_; intro v6 w6 own6 hb6; rw [← bytesV_app2] at own6; have HO6 := Lib.hid own6; have HB6 := Lib.hid hb6; clear own6 hb6)
        have HBX := Lib.hid (HBW.out.trans (((Same.alloc V (.cells #[.int .u8 (bd (byteOf (n : Int)))] 5)).mono HBV.out).trans HB6.out))
        have HP6 := Lib.hid (HP.out.same (by rw [HB0.out]; exact HBX.out))
        have HO7 : Hid (w6.ownsRow w.heap.size 5 1 v6 9 (bytesV (le e0 4 ++ le s0 4 ++ [byteOf (n : Int)]))) := Lib.hid (own_mono HO6.out (by rw [← HB0.out]; exact HP.out.chg.size))
        clear HBX HB6 HB4 HP4 HO4 HR4 hcv k2 HBV HBW HP HB0 HO6
        obtain ⟨H9, hH9⟩ : ∃ H9, le e0 4 ++ le s0 4 ++ [byteOf (n : Int)] = H9 := ⟨_, rfl⟩
        have HH9 := Lib.hid hH9
        rw [hH9] at HO7
        clear hH9
        obtain ⟨K1, hK1⟩ : ∃ K1 : DiskM → Int × DiskM, (fun M => orElse M.fRes fun M => orElse (M.wRes f (headB e0 s0 (l.map (·.1)))) fun M => M.fRes) = K1 := ⟨_, rfl⟩
        have HK1 := Lib.hid hK1
        rw [hK1] at HR
        clear hK1
        have HP5 := HP6
        clear HP6
        go_wp2_with fail
        go_loopw [7, 8] (fun bv i wr => ∃ (k : Nat) (Mk : DiskM), k ≤ n ∧ i = .int .i64 k ∧ wr.ownsRow w.heap.size 5 1 bv (9 + k) (bytesV (H9 ++ ((l.map (·.1)).take k).map byteOf)) ∧ PutSt base w p F g5 43 #[.int .u32 (wd e0), .int .u32 (wd s0), .slice A n c, .int .i64 ee] (.slice A n c) l Mk wr ∧ RES = orElse (imgs Mk (f + 1 + k) ((l.map (·.2)).drop k)) K1 ∧ Mk.l.length ≤ M.l.length + k ∧ Mk.s.length = M.s.length) (fun _ i _ => n - (intOf i).toNat)
        case atStart => exact ⟨0, M, by omega, rfl, by simpa using HO7.out, HP5.out, by rw [HR.out]; simp, by omega, rfl⟩
        case round =>
          obtain ⟨k, Mk, hk, rfl, hO, hP, hR, hML, hMS⟩ := hrel
          have k2 : wr.cell? ⟨g5, 2, none⟩ = some (.slice A n c) := hP.row.get rfl
          have HO := Lib.hid hO
          have HPk := Lib.hid hP
          have HRk := Lib.hid hR
          have HMk : Hid (Mk.l.length ≤ M.l.length + k ∧ Mk.s.length = M.s.length) := Lib.hid ⟨hML, hMS⟩
          clear hO hR hML hMS
          by_cases hlt : k < n
          · obtain ⟨⟨D, q⟩, hx⟩ : ∃ x, l[k]? = some x := ⟨_, List.getElem?_eq_getElem (by rw [HN.out]; exact hlt)⟩
            obtain ⟨A', c', e1, _, hb, h4⟩ := hP.puts
            obtain ⟨b, o, e2, _, h6⟩ := h4 (by intro e; rw [e] at hx; simp at hx)
            injection e1 with e1 e9 e3
            clear e9
            subst e1 e3
            subst e2
            have hr := h6 k _ hx
            obtain ⟨O, hO⟩ : ∃ O, o + k * 33 = O := ⟨_, rfl⟩
            rw [hO] at hr
            have ci : wr.cell? ⟨b, O, none⟩ = some (.int .i64 D) := by have := hr 0 _ rfl; simpa using this
            have HRG : Hid (wr.rangeAt b (O + 1) (bytesV q)) := Lib.hid (fun j u hu => by have := hr (j + 1) u (by simpa [pcell] using hu); rwa [show O + 1 + j = O + (j + 1) by omega])
            have HQ : Hid (q.length = 32) := Lib.hid (hb _ (List.mem_of_getElem? hx)).1
            have HX : Hid (l[k]? = some (D, q)) := Lib.hid hx
            have hk0 : (0 : Int) ≤ (k : Int) := by omega
            have hk1 : (k : Int) < (n : Int) := by omega
            have hcv : IntKind.u8.wrap D = bd (byteOf D) := wrap_u8_bd _
            have HR4 : Hid (Slice (wr.alloc (.cells #[.int .u8 (bd (byteOf D))] 5)) (.slice (some ⟨wr.heap.size, 0, none⟩) 1 1) [byteOf D]) := Lib.hid (row_slice (Row.fresh wr 5 (bs [byteOf D])) (c := 1) (Nat.le_refl _))
            have HO4 := Lib.hid (HO.out.alloc (.cells #[.int .u8 (bd (byteOf D))] 5))
            have HP4 := Lib.hid (HPk.out.same (Same.alloc wr (.cells #[.int .u8 (bd (byteOf D))] 5)))
            have HSZ : Hid (w.heap.size ≤ (wr.alloc (.cells #[.int .u8 (bd (byteOf D))] 5)).heap.size) := Lib.hid HP4.out.chg.size
            clear hx h6 h4 hb hr hP HO HPk
            go_upto_region 9 with (at_builtin; refine wpList_append_grown rfl (.tmp 45) (.tmp 53) rfl w.heap.size _ (9 + k) _ rfl HO4.out ⟨wr.heap.size, 0, none⟩ 1 1 _ rfl HR4.out (by have := HN5.out; omega) HSZ.out ?_; intro v6 w6 own6 hb6; rw [← bytesV_app2] at own6; have HO6 := Lib.hid own6; have HP6 := Lib.hid (HP4.out.grown HO4.out (by decide) (fun k hk => (HA.out k hk).1) hb6); clear own6 hb6)
            have HRG6 : Hid (w6.rangeAt b (O + 1) (bytesV q)) := Lib.hid (by
              obtain ⟨A', c', e1, _, _, h4⟩ := HP6.out.puts
              obtain ⟨b', o', e2, _, h7⟩ := h4 (by intro e; have := HX.out; rw [e] at this; simp at this)
              injection e1 with e1 e9 e3
              rw [← e1] at e2
              cases e2
              intro j u hu
              have := h7 k _ HX.out (j + 1) u (by simpa [pcell] using hu)
              rwa [hO, show O + (j + 1) = O + 1 + j by omega] at this)
            have k2 : w6.cell? ⟨g5, 2, none⟩ = some (.slice (some ⟨b, o, none⟩) n c) := HP6.out.row.get rfl
            have hB1 : (some ⟨b, O, none⟩ : Option Addr) = some ⟨b, O, none⟩ := rfl
            have e1 : IntKind.i64.wrap (f + 1) = f + 1 := i64_id _ (by have := HM6.out; omega) (by have := HM6.out; have := HF.out; have := HMB.out; omega)
            have e2 : IntKind.i64.wrap (f + 1 + (k : Int)) = f + 1 + (k : Int) := i64_id _ (by have := HM6.out; omega) (by have := HM6.out; have := HMB.out; have := HN5.out; omega)
            obtain ⟨Fk, hk3, hsub⟩ := HP6.out.disk
            have C := ref_write base w6 p Mk Fk (f + 1 + (k : Int)) q hk3 HQ.out (by have := HMk.out.1; have := HN5.out; omega)
            obtain ⟨res, hres⟩ : ∃ res, Mk.wRes (f + 1 + (k : Int)) q = res := ⟨_, rfl⟩
            have hL6 : (Mk.wRes (f + 1 + (k : Int)) q).2.l.length ≤ M.l.length + k + 1 := wRes_l Mk _ q HMk.out.1
            have hS6 : (Mk.wRes (f + 1 + (k : Int)) q).2.s.length = M.s.length := by rw [wRes_s]; exact HMk.out.2
            have hdrop : (l.map (·.2)).drop k = q :: (l.map (·.2)).drop (k + 1) := by
              rw [← List.getElem_cons_drop (by rw [List.length_map]; exact (List.getElem?_eq_some_iff.1 HX.out).1)]
              congr 1
              have := HX.out
              rw [List.getElem?_eq_some_iff] at this
              obtain ⟨_, h⟩ := this
              rw [List.getElem_map, h]
            have hR6 : RES = orElse (orElse res fun M => imgs M (f + 1 + (k : Int) + 1) ((l.map (·.2)).drop (k + 1))) K1 := by rw [HRk.out, hdrop, ← hres]; rfl
            rw [hres] at C hL6 hS6
            obtain ⟨rr, M'⟩ := res
            have HRR := Lib.hid hR6
            have HML := Lib.hid (And.intro hL6 hS6)
            have HSUB := Lib.hid hsub
            have HK3 := Lib.hid hk3
            clear hR6 hdrop hL6 hS6 hsub hk3 hres HR4 HO4 HP4 HRG HSZ HRk hB1
            go_wp2_with (refine wpList_load_mid rfl 52 _ rfl b (O + 1) rfl (bytesV q) _ HRG6.out Try.underlying52 rfl (by rw [len_bytesV, HQ.out]; exact size_blk) ?_)
            refine C.mono ?_
            rintro e W7 ⟨rfl, F7, h71, h72, h73⟩
            have HP7 := Lib.hid (HP6.out.step HA.out (by decide) (by decide) (by decide) HK3.out HSUB.out h71 h72 h73)
            have HO7b := Lib.hid (own_chg HO6.out h72 (fun g hg => ref_apart HK3.out HO6.out (by decide) (by decide) (by decide) g hg))
            clear C h71 h72 h73 k2
            have hn5 : n ≤ 5 := HN5.out.2
            by_cases hr0 : rr = 0
            · subst hr0
              go_wp2_with fail
              refine ⟨⟨k + 1, M', by omega, by go_num, ?_, HP7.out, ?_, by have := HML.out.1; omega, HML.out.2⟩, by simp [intOf] <;> omega⟩
              · have e9 : (l.map (·.1)).take (k + 1) = (l.map (·.1)).take k ++ [D] := by
                  rw [List.take_succ_eq_append_getElem (by rw [List.length_map]; exact (List.getElem?_eq_some_iff.1 HX.out).1)]
                  congr 2
                  have := HX.out
                  rw [List.getElem?_eq_some_iff] at this
                  obtain ⟨_, h⟩ := this
                  rw [List.getElem_map, h]
                rw [e9, List.map_append, List.map_singleton, ← List.append_assoc]
                exact HO7b.out
              · rw [HRR.out]
                show orElse (imgs M' (f + 1 + (k : Int) + 1) _) K1 = _
                rw [show f + 1 + ((k + 1 : Nat) : Int) = f + 1 + (k : Int) + 1 by omega]
            · have hq0 : (rr == 0) = false := by simpa using hr0
              have hRf : RES = (rr, M') := by rw [HRR.out]; unfold orElse; rw [if_neg hr0, if_neg hr0]
              have HRf := Lib.hid hRf
              clear hRf
              go_wp2_with fail
              go_ret
              obtain ⟨F8, h1, h2⟩ := HP7.out.disk
              rw [HRf.out]
              exact ⟨rfl, F8, h1, HP7.out.chg, h2⟩
          · obtain rfl : k = n := by omega
            have hnil : (l.map (·.2)).drop k = [] := List.drop_eq_nil_of_le (by rw [List.length_map]; exact Nat.le_of_eq HN.out)
            have htake : (l.map (·.1)).take k = l.map (·.1) := List.take_of_length_le (by rw [List.length_map]; exact Nat.le_of_eq HN.out)
            have hR8 : RES = orElse Mk.fRes fun M => orElse (M.wRes f (headB e0 s0 (l.map (·.1)))) fun M => M.fRes := by rw [HRk.out, hnil, ← HK1.out]; rfl
            have hbody : H9 ++ (l.map (·.1)).map byteOf = headOf e0 s0 (l.map (·.1)) := by rw [← HH9.out]; unfold headOf; rw [List.length_map, HN.out]
            have hlen : (l.map (·.1)).length ≤ 5 := by rw [List.length_map, HN.out]; exact HN5.out.2
            obtain ⟨hx1, hx2⟩ := enc_head (e := e0) (s := s0) hlen
            have hx3 := length_headOf e0 s0 (l.map (·.1))
            have hx4 := length_headB (e := e0) (s := s0) hlen
            obtain ⟨H, hH⟩ : ∃ H, headB e0 s0 (l.map (·.1)) = H := ⟨_, rfl⟩
            obtain ⟨Y, hY⟩ : ∃ Y, headOf e0 s0 (l.map (·.1)) = Y := ⟨_, rfl⟩
            rw [htake, hbody, hY] at HO
            rw [hH] at hR8 hx1 hx4
            rw [hY] at hx1 hx2 hx3
            rw [List.length_map, HN.out] at hx3
            have HY : Hid (Y.length = 9 + k) := Lib.hid hx3
            have HH : Hid (H.length = 32) := Lib.hid hx4
            have HEN : Hid (∀ (v : Value) (W : World), Item W v Y → Calls Try.prog 20 #[.int .u8 87, v] W fun e w' => e = .returned (.tuple #[.agg (bs H), .int .i64 0]) ∧ Below W.heap.size W w') := Lib.hid (fun v W hi => by
              have := refenc_any 0x57#8 Y v W hi
              rw [hx1, hx2] at this
              exact this)
            obtain ⟨Fk, hk3, hsub⟩ := HPk.out.disk
            have C := ref_flush base wr p Mk Fk hk3 (by have := HMk.out.1; have := HN5.out; have := HMB.out.2; omega)
            have HL8 := Lib.hid (And.intro (fRes_l Mk) (fRes_s Mk))
            obtain ⟨⟨r8, M8⟩, hres⟩ : ∃ res, Mk.fRes = res := ⟨_, rfl⟩
            rw [hres] at C hR8 HL8
            have HR8 := Lib.hid hR8
            have HSUB := Lib.hid hsub
            have HK3 := Lib.hid hk3
            have hq : decide ((k : Int) < (k : Int)) = false := decide_eq_false (by omega)
            clear hnil htake hR8 hbody hlen hx1 hx2 hx3 hx4 hH hY hsub hk3 hres hlt hP
            go_wp2_with fail
            refine C.mono ?_
            rintro e W8 ⟨rfl, F8, h81, h82, h83⟩
            have HP8 := Lib.hid (HPk.out.step HA.out (by decide) (by decide) (by decide) HK3.out HSUB.out h81 h82 h83)
            have HO8 := Lib.hid (own_chg HO.out h82 (fun g hg => ref_apart HK3.out HO.out (by decide) (by decide) (by decide) g hg))
            clear C h81 h82 h83 k2 HK3 HSUB HPk HO HRk
            by_cases hr0 : r8 = 0
            case neg =>
              have hq0 : (r8 == 0) = false := by simpa using hr0
              have HRf : Hid (RES = (r8, M8)) := Lib.hid (by rw [HR8.out]; unfold orElse; rw [if_neg hr0])
              go_wp2_with fail
              go_ret
              obtain ⟨F9, h1, h2⟩ := HP8.out.disk
              rw [HRf.out]
              exact ⟨rfl, F9, h1, HP8.out.chg, h2⟩
            subst hr0
            have HR9 : Hid (RES = orElse (M8.wRes f H) fun M => M.fRes) := Lib.hid (by rw [HR8.out]; rfl)
            clear HR8
            have hI : Item W8 _ Y := own_item (by rw [HY.out]; exact HO8.out) (by rw [HY.out]; have := HN5.out; simp only [maxLen]; omega)
            have C := HEN.out _ W8 hI
            clear hI HEN
            go_wp2_with fail
            refine C.mono ?_
            rintro e W9 ⟨rfl, hb9⟩
            have HPX := Lib.hid ((HP8.out.same hb9).same (Same.alloc W9 (.cells (bs H) 52)))
            have R9 := Lib.hid (Row.fresh W9 52 (bs H))
            have hz := zeros_blk
            clear C hb9 HP8 HO8
            go_upto_region 16 with (refine wpList_store_row rfl 52 _ _ rfl W9.heap.size (bs H) rfl rfl 52 _ (Row.fresh _ _ _) (by rw [size_bs, HH.out]; exact size_blk) (by rw [size_bs, size_bs, length_blk, HH.out]) (one_bs _) ?_; rw [World.setRow_alloc_new])
            clear hz
            obtain ⟨g11, hg11⟩ : ∃ g, W9.heap.size = g := ⟨_, rfl⟩
            rw [hg11] at R9
            rw [hg11]
            clear hg11
            generalize W9.alloc (.cells (bs H) 52) = W10 at *
            obtain ⟨Fk, hk3, hsub⟩ := HPX.out.disk
            have C := ref_write base W10 p M8 Fk f H hk3 HH.out (by have := HL8.out.1; have := HMk.out.1; have := HN5.out; have := HMB.out.2; omega)
            have HLX := Lib.hid (wRes_l M8 f H (Nat.le_refl _))
            obtain ⟨⟨r9, M9⟩, hres⟩ : ∃ res, M8.wRes f H = res := ⟨_, rfl⟩
            rw [hres] at C HLX HR9
            have HSUB := Lib.hid hsub
            have HK3 := Lib.hid hk3
            have rr := row_range R9.out (Below.refl _ _) R9.out.lt
            clear hsub hk3 hres
            go_wp2_with (refine wpList_load_mid rfl 52 _ rfl g11 0 rfl (bs H).toList _ rr Try.underlying52 rfl (by rw [len_bs, HH.out]; exact size_blk) ?_)
            refine C.mono ?_
            rintro e W11 ⟨rfl, F8, h81, h82, h83⟩
            have HP11 := Lib.hid (HPX.out.step HA.out (by decide) (by decide) (by decide) HK3.out HSUB.out h81 h82 h83)
            clear C h81 h82 h83 HK3 HSUB HPX rr
            by_cases hr0 : r9 = 0
            case neg =>
              have hq0 : (r9 == 0) = false := by simpa using hr0
              have HRf : Hid (RES = (r9, M9)) := Lib.hid (by rw [HR9.out]; unfold orElse; rw [if_neg hr0])
              go_wp2_with fail
              go_ret
              obtain ⟨F9, h1, h2⟩ := HP11.out.disk
              rw [HRf.out]
              exact ⟨rfl, F9, h1, HP11.out.chg, h2⟩
            subst hr0
            have HR10 : Hid (RES = M9.fRes) := Lib.hid (by rw [HR9.out]; rfl)
            clear HR9
            obtain ⟨Fk, hk3, hsub⟩ := HP11.out.disk
            have C := ref_flush base W11 p M9 Fk hk3 (by have := HLX.out; have := HL8.out.1; have := HMk.out.1; have := HN5.out; have := HMB.out.2; omega)
            rw [← HR10.out] at C
            have HSUB := Lib.hid hsub
            have HK3 := Lib.hid hk3
            clear hsub hk3
            go_wp2_with fail
            refine C.mono ?_
            rintro e W12 ⟨rfl, F8, h81, h82, h83⟩
            have HP12 := Lib.hid (HP11.out.step HA.out (by decide) (by decide) (by decide) HK3.out HSUB.out h81 h82 h83)
            clear C h81 h82 h83 HK3 HSUB HP11
            go_wp2_with fail
            go_ret
            obtain ⟨F9, h1, h2⟩ := HP12.out.disk
            exact ⟨rfl, F9, h1, HP12.out.chg, h2⟩
end Go.Proofs.Ytcdcongeogmfkaa

/- The document's Get. -/
set_option maxRecDepth 4000
namespace Go.Proofs.Ytcdcongeogmfkaa
open Go Go.RowKit
def recC (r : Rec) (v : Value) (e : Int) : Array Value := #[.int .u32 (wd r.e), .int .u32 (wd r.s), v, .int .i64 e]
theorem zeros_recC (e : Int) : (#[.int .u32 0, .int .u32 0, .slice none 0 0, .int .i64 e] : Array Value) = recC rec0 (.slice none 0 0) e := by rfl
theorem size_wrec : (Try.prog.info? 43).map (·.size) = some 4 := by kernel_rfl
theorem one_recC (r : Rec) (A : Option Addr) {n c : Nat} (e : Int) : (recC r (.slice A n c) e).all (·.oneCell') = true := by simp [recC, Value.oneCell']
structure GetAt (base : Nat) (w : World) (p : Value) (M : DiskM) (F : Nat → Prop) (g4 g7 : Nat) (R : List (BitVec 8)) (ee : Int) (W : World) : Prop where
  disk : RefAt base W p M F
  lt : ∀ k, F k → k < w.heap.size
  r4 : Row W g4 43 (recC rec0 (.slice none 0 0) 0)
  r7 : Row W g7 91 (gotCells R ee)
  below : Below w.heap.size w W
  lo4 : w.heap.size ≤ g4
section
variable {base : Nat} {w W W' : World} {p : Value} {M : DiskM} {F : Nat → Prop} {g4 g7 : Nat} {R : List (BitVec 8)} {ee : Int}
theorem GetAt.chg {G : Nat → Prop} (h : GetAt base w p M F g4 g7 R ee W) (c : Chg G W W') (hG : ∀ k, G k → w.heap.size ≤ k ∧ k ≠ g4 ∧ k ≠ g7) : GetAt base w p M F g4 g7 R ee W' :=
  ⟨ref_keep h.disk c (fun k hk hg => by have := h.lt k hk; have := (hG k hg).1; omega), h.lt, h.r4.chg c (fun hg => (hG _ hg).2.1 rfl), h.r7.chg c (fun hg => (hG _ hg).2.2 rfl), h.below.trans (c.below (fun k hk => (hG k hk).1) h.below.size), h.lo4⟩
theorem GetAt.same (h : GetAt base w p M F g4 g7 R ee W) (k : Below W.heap.size W W') : GetAt base w p M F g4 g7 R ee W' := h.chg (G := fun _ => False) (Chg.of_below k) (fun _ h => h.elim)
theorem GetAt.set (h : GetAt base w p M F g4 g7 R ee W) {g : Nat} (h1 : w.heap.size ≤ g) (h2 : g ≠ g4) (h3 : g ≠ g7) (cs : Array Value) : GetAt base w p M F g4 g7 R ee (W.setRow g cs) :=
  h.chg (G := fun k => some g = some k) ((Chg.refl _ W).grown (grown_setRow W g cs) (fun k hk => .inl hk)) (fun k hk => by cases hk; exact ⟨h1, h2, h3⟩)
end
theorem info_put2 : (Try.prog.info? 70).map (fun i => (i.zero, i.size)) = some (some (.agg zput0), 33) := by kernel_rfl
theorem places_put : placesOf Try.prog 70 = some (33, [(0, 1), (1, 32)]) := by kernel_rfl
theorem pcell_eq (i : Int) (b : List (BitVec 8)) : Value.agg ([Value.int .i64 i, .agg (bs b)].flatMap fun v => v.cells.toList).toArray = .agg (pcell (i, b)).toArray := by
  simp [pcell, bs, bytesV, Value.cells]
theorem own_slice_form' {w : World} {b e n size : Nat} {v : Value} {xs : List Value} (h : w.ownsRow b e size v n xs) : ∃ A c, v = .slice A n c := by
  rcases h.2 with ⟨rfl, rfl⟩ | ⟨g, cap, cur, rfl, _⟩
  · exact ⟨_, _, rfl⟩
  · exact ⟨_, _, rfl⟩
/- the answer: a record, its puts in new memory -/
def Told (w : World) (r : Rec) (err : Int) : Ending → World → Prop := fun e w' => ∃ v, e = .returned (.agg (recC r v err)) ∧ PutsAt w' v r.l ∧ Below w.heap.size w w' ∧ ∀ k, v.ownBlock = some k → w.heap.size ≤ k
theorem told_no {w w' : World} {err : Int} (hb : Below w.heap.size w w') : Told w rec0 err (.returned (.agg (recC rec0 (.slice none 0 0) err))) w' :=
  ⟨_, rfl, ⟨none, 0, rfl, Nat.le_refl _, fun x hx => (List.not_mem_nil hx).elim, fun h => absurd rfl h⟩, hb, fun k hk => by cases hk⟩
theorem drop_getD (R : List (BitVec 8)) (i : Nat) : (R.drop 1).getD i 0#8 = R.getD (i + 1) 0#8 := by
  rw [List.getD_eq_getElem?_getD, List.getElem?_drop, List.getD_eq_getElem?_getD, Nat.add_comm]
theorem isHead_no {h : List (BitVec 8)} (k : decOk h = false) : isHead h = false := by unfold isHead; rw [k]; rfl
theorem isHead_mark {h : List (BitVec 8)} (k : markOf h ≠ 0x57#8) : isHead h = false := by unfold isHead; rw [decide_eq_false k, Bool.false_and, Bool.and_false]; rfl
theorem isHead_many {h : List (BitVec 8)} (k : ¬ cnt h ≤ 5) : isHead h = false := by unfold isHead; rw [decide_eq_false k, Bool.and_false, Bool.and_false]; rfl
theorem isHead_behind {h : List (BitVec 8)} {i : Nat} (hi : i < 20 - cnt h) (k : (bodyOf h).getD (9 + cnt h + i) 0#8 ≠ 0#8) : isHead h = false := by
  unfold isHead; rw [decide_eq_false (p := ∀ i < 20 - cnt h, (bodyOf h).getD (9 + cnt h + i) 0#8 = 0#8) (fun hh => k (hh i hi)), Bool.false_and, Bool.and_false]
theorem isHead_is {h : List (BitVec 8)} (h1 : decOk h = true) (h2 : markOf h = 0x57#8) (h3 : cnt h ≤ 5) (h4 : ∀ i < 20 - cnt h, (bodyOf h).getD (9 + cnt h + i) 0#8 = 0#8) : isHead h = goodB (atsOf h) := by
  unfold isHead; rw [h1, decide_eq_true h2, decide_eq_true h3, decide_eq_true h4]; rfl
set_option maxRecDepth 20000 in
set_option maxHeartbeats 1600000 in
theorem refwget_any (base : Nat) (w : World) (p : Value) (M : DiskM) (F : Nat → Prop) (f : Int) (h : RefAt base w p M F) (hf : -9223372036854775808 ≤ f ∧ f < 9223372036854775808) (hM : M.l.length ≤ few) :
    Calls Try.prog 16 #[p, .int .i64 f] w (Told w (walGet M f).1 (walGet M f).2) := by
  have HH := Lib.hid h
  have HF := Lib.hid hf
  have C1 := fun W (hb : Below w.heap.size w W) => refmay_any base W p M F f (ref_keep h (Chg.of_below (F := fun _ => False) hb) (fun _ _ => id)) hf
  have HC1 := Lib.hid C1
  have HC3 : Hid (∀ (i : Int) (W : World), (-9223372036854775808 ≤ i ∧ i < 9223372036854775808) → RefAt base W p M F → Calls Try.prog 38 #[p, .int .i64 i] W (Asks W (.tuple #[.agg (bs (M.rRes i).1), .int .i64 (M.rRes i).2]))) := Lib.hid (fun i W _ h => ref_read base W p M F i h hM)
  have hz := zeros_recC
  obtain ⟨RES, hRES⟩ : ∃ R, walGet M f = R := ⟨_, rfl⟩
  have HRES : Hid (RES = if mayB M f then (if M.down then (rec0, 20) else if isHead (M.now f.toNat) then (recAt M f.toNat, 0) else (rec0, 11)) else (rec0, 1)) := Lib.hid (by rw [← hRES]; rfl)
  rw [hRES]
  have HLT : Hid (∀ k, F k → k < w.heap.size) := Lib.hid (fun k hk => (ref_lt h k hk).2)
  have HOKM := Lib.hid (ref_ok h)
  clear hRES C1 h hf hM
  go_enter Try.func16, Try.ntmps16
  go_upto_region 1 with fail
  have R4 := Lib.hid (Row.fresh w 43 (recC rec0 (.slice none 0 0) 0))
  have HB1 := Lib.hid (Same.alloc w (.cells (recC rec0 (.slice none 0 0) 0) 43))
  have HR1 := Lib.hid (ref_keep HH.out (Chg.of_below (F := fun _ => False) HB1.out) (fun _ _ => id))
  have HLO4 : ∃ g4, Hid (w.heap.size = g4) := ⟨_, Lib.hid rfl⟩
  obtain ⟨g4, HLO4⟩ := HLO4
  rw [HLO4.out] at R4
  rw [HLO4.out]
  generalize w.alloc (.cells (recC rec0 (.slice none 0 0) 0) 43) = W1 at *
  have r4 := R4.out
  have C1 := HC1.out W1 HB1.out
  go_wp2_with fail
  refine C1.mono ?_
  rintro e w1 ⟨rfl, rfl⟩
  clear C1 HC1
  cases hmay : mayB M f with
  | false =>
    have hR : RES = (rec0, 1) := by rw [HRES.out, hmay]; rfl
    clear hmay
    go_wp2_with (refine wpList_store_row rfl 43 _ _ rfl g4 (recC rec0 (.slice none 0 0) 1) rfl rfl 43 _ r4 (by exact size_wrec) rfl (one_recC _ _ _) ?_)
    exact bodyPost_ret (v := .agg (recC rec0 (.slice none 0 0) 1)) (results_cell_row Try.results16 _ _ g4 43 (recC rec0 (.slice none 0 0) 1) (0, 0) _ rfl (r4.setRow _) Try.underlying43 rfl size_wrec) rfl (by rw [hR]; exact told_no (below_setRow HB1.out (Nat.le_of_eq HLO4.out) _))
  | true =>
    have HM6 : Hid (0 ≤ f ∧ f + 6 ≤ (M.s.length : Int)) := Lib.hid (by unfold mayB at hmay; simpa using hmay)
    have C3 := HC3.out f W1 HF.out HR1.out
    have hhas : M.has f = true := by unfold DiskM.has; have := HM6.out; simp; omega
    have hrr : M.rRes f = if M.down then (blk 0#8, 20) else (M.now f.toNat, 0) := by unfold DiskM.rRes; rw [hhas]; rfl
    have HRES2 : Hid (RES = if M.down then (rec0, 20) else if isHead (M.now f.toNat) then (recAt M f.toNat, 0) else (rec0, 11)) := Lib.hid (by rw [HRES.out, hmay]; rfl)
    rw [hrr] at C3
    clear hmay HRES hhas hrr
    cases hdn : M.down with
    | true =>
      have hR : RES = (rec0, 20) := by rw [HRES2.out, hdn]; rfl
      rw [hdn, if_pos rfl] at C3
      clear hdn HRES2 HC3
      go_wp2_with fail
      refine C3.mono ?_
      rintro e W3 ⟨rfl, hb3⟩
      have r4b := (r4.call hb3).alloc (.cells (bs (blk 0#8)) 52)
      have HB3 := Lib.hid ((HB1.out.trans (hb3.mono HB1.out.size)).trans ((Same.alloc W3 (.cells (bs (blk 0#8)) 52)).mono (HB1.out.trans (hb3.mono HB1.out.size)).size))
      have hzb := zeros_blk
      clear C3 r4
      go_wp2_with (first | (refine wpList_store_row rfl 52 _ _ rfl W3.heap.size (bs (blk 0#8)) rfl rfl 52 _ (Row.fresh _ _ _) (by rw [size_bs, length_blk]; exact size_blk) (by rw [size_bs, length_blk]) (one_bs _) ?_; rw [World.setRow_alloc_new]) | (refine wpList_store_row rfl 43 _ _ rfl g4 (recC rec0 (.slice none 0 0) 20) rfl rfl 43 _ r4b (by exact size_wrec) rfl (one_recC _ _ _) ?_))
      exact bodyPost_ret (v := .agg (recC rec0 (.slice none 0 0) 20)) (results_cell_row Try.results16 _ _ g4 43 (recC rec0 (.slice none 0 0) 20) (0, 0) _ rfl (r4b.setRow _) Try.underlying43 rfl size_wrec) rfl (by rw [hR]; exact told_no (below_setRow HB3.out (Nat.le_of_eq HLO4.out) _))
    | false =>
      have HR3 : Hid (RES = if isHead (M.now f.toNat) then (recAt M f.toNat, 0) else (rec0, 11)) := Lib.hid (by rw [HRES2.out, hdn]; rfl)
      rw [hdn, if_neg (by decide)] at C3
      have HDN := Lib.hid hdn
      have hlen := now_length HOKM.out (i := f.toNat) (by have := HM6.out; omega)
      obtain ⟨Hd, hHd⟩ : ∃ H, M.now f.toNat = H := ⟨_, rfl⟩
      rw [hHd] at C3 hlen HR3
      have HHD := Lib.hid hHd
      have HL := Lib.hid hlen
      have C6 := fun W => refdec_any Hd W hlen
      have HCS : Hid ((decOk Hd = true ∧ decR Hd = Hd.take 30 ∧ decE Hd = 0) ∨ (decOk Hd = false ∧ decR Hd = zer 30 ∧ decE Hd = 11)) := Lib.hid (by
        by_cases hok : decOk Hd = true
        · exact .inl ⟨hok, by unfold decR; rw [if_pos hok], by unfold decE; rw [if_pos hok]⟩
        · have hok : decOk Hd = false := by simpa using hok
          exact .inr ⟨hok, decR_no hok, decE_no hok⟩)
      have hRL := length_decR hlen
      obtain ⟨R, hR⟩ : ∃ R, decR Hd = R := ⟨_, rfl⟩
      obtain ⟨ee, hee⟩ : ∃ ee, decE Hd = ee := ⟨_, rfl⟩
      rw [hR, hee] at C6
      rw [hR] at hRL
      rw [hR, hee] at HCS
      have HRL := Lib.hid hRL
      have HC6 := Lib.hid C6
      clear hdn HRES2 hHd hlen C6 hR hee hRL
      go_wp2_with fail
      refine C3.mono ?_
      rintro e W3 ⟨rfl, hb3⟩
      have HB3 := Lib.hid (HB1.out.trans (hb3.mono HB1.out.size))
      have HR3d := Lib.hid (ref_keep HR1.out (Chg.of_below (F := fun _ => False) hb3) (fun _ _ => id))
      have R43 := Lib.hid (R4.out.call hb3)
      have hzb := zeros_blk
      clear C3 r4 hb3 HR1 HB1 R4
      go_upto_region 6 with (refine wpList_store_row rfl 52 _ _ rfl W3.heap.size (bs Hd) rfl rfl 52 _ (Row.fresh _ _ _) (by rw [size_bs, HL.out]; exact size_blk) (by rw [size_bs, size_bs, length_blk, HL.out]) (one_bs _) ?_; rw [World.setRow_alloc_new])
      clear hzb
      have R5 := Lib.hid (Row.fresh W3 52 (bs Hd))
      have HB4 := Lib.hid (HB3.out.trans ((Same.alloc W3 (.cells (bs Hd) 52)).mono HB3.out.size))
      have HR4d := Lib.hid (ref_keep HR3d.out (Chg.of_below (F := fun _ => False) (Same.alloc W3 (.cells (bs Hd) 52))) (fun _ _ => id))
      have R44 := Lib.hid (R43.out.alloc (.cells (bs Hd) 52))
      obtain ⟨g5, hg5⟩ : ∃ g, W3.heap.size = g := ⟨_, rfl⟩
      rw [hg5] at R5
      rw [hg5]
      clear hg5 HB3 HR3d R43
      generalize W3.alloc (.cells (bs Hd) 52) = W4 at *
      have rr := row_range R5.out (Below.refl _ _) R5.out.lt
      go_wp2_with (refine wpList_load_mid rfl 52 _ rfl g5 0 rfl (bs Hd).toList _ rr Try.underlying52 rfl (by rw [len_bs, HL.out]; exact size_blk) ?_)
      refine (HC6.out W4).mono ?_
      rintro e W5 ⟨rfl, hb5⟩
      have HSG : Hid ((gotCells R ee).size = 31) := Lib.hid (size_gotCells HRL.out)
      have hzg := zeros_got
      have HB6 := Lib.hid (HB4.out.trans ((hb5.trans ((Same.alloc W5 (.cells (gotCells R ee) 91)).mono hb5.size)).mono HB4.out.size))
      have HGA : Hid (GetAt base w p M F g4 W5.heap.size R ee (W5.alloc (.cells (gotCells R ee) 91))) := Lib.hid ⟨ref_keep HR4d.out (Chg.of_below (F := fun _ => False) (hb5.trans ((Same.alloc W5 (.cells (gotCells R ee) 91)).mono hb5.size))) (fun _ _ => id), HLT.out, (R44.out.call hb5).alloc _, Row.fresh _ _ _, HB6.out, Nat.le_of_eq HLO4.out⟩
      have HLT7 : Hid (g4 < W5.heap.size) := Lib.hid (R44.out.call hb5).lt
      clear rr hb5 HC6 HB4 HR4d R44 R5 HB6
      go_upto_region 7 with (refine wpList_store_row rfl 91 _ _ rfl W5.heap.size (gotCells R ee) rfl rfl 91 _ (Row.fresh _ _ _) (by rw [HSG.out]; exact size_got) (by rw [HSG.out]; exact size_gotCells (by rfl)) (one_gotCells _ _) ?_; rw [World.setRow_alloc_new])
      clear hzg
      obtain ⟨g7, hg7⟩ : ∃ g, W5.heap.size = g := ⟨_, rfl⟩
      rw [hg7] at HGA HLT7
      rw [hg7]
      clear hg7 HSG
      generalize W5.alloc (.cells (gotCells R ee) 91) = W7 at *
      have c9 := got_at HGA.out.r7 HRL.out (i := 9) (by decide)
      have c0 := got_at HGA.out.r7 HRL.out (i := 0) (by decide)
      have c30 := got_e HGA.out.r7 HRL.out
      obtain ⟨n, hn⟩ : ∃ n, (R.getD 9 0#8).toNat = n := ⟨_, rfl⟩
      have HNN := Lib.hid hn
      obtain ⟨y9, hy9⟩ : ∃ y, R.getD 9 0#8 = y := ⟨_, rfl⟩
      rw [hy9] at c9 hn
      have hn256 : n < 256 := by rw [← hn]; exact y9.isLt
      have hcv : IntKind.i64.wrap (bd y9) = (n : Int) := by rw [show bd y9 = (y9.toNat : Int) from rfl, hn]; exact i64_id _ (by omega) (by omega)
      clear hy9
      have r4 := HGA.out.r4
      clear hn
      rcases HCS.out with ⟨hok, hRR, rfl⟩ | ⟨hok, hRR, rfl⟩
      case inr =>
        have hRX : RES = (rec0, 11) := by rw [HR3.out, isHead_no hok]; rfl
        have HRX := Lib.hid hRX
        clear hok hRR hRX HR3 HCS
        go_wp2_with (refine wpList_store_row rfl 43 _ _ rfl g4 (recC rec0 (.slice none 0 0) 11) rfl rfl 43 _ r4 (by exact size_wrec) rfl (one_recC _ _ _) ?_)
        exact bodyPost_ret (v := .agg (recC rec0 (.slice none 0 0) 11)) (results_cell_row Try.results16 _ _ g4 43 (recC rec0 (.slice none 0 0) 11) (0, 0) _ rfl (r4.setRow _) Try.underlying43 rfl size_wrec) rfl (by rw [HRX.out]; exact told_no (below_setRow HGA.out.below HGA.out.lo4 _))
      have hbody : R.drop 1 = bodyOf Hd := by rw [hRR]; unfold bodyOf; rw [List.drop_take]
      have hmark : R.getD 0 0#8 = markOf Hd := by
        rw [hRR]
        have := HL.out
        cases Hd with
        | nil => simp at this
        | cons x y => rfl
      have hcnt : cnt Hd = n := by unfold cnt; rw [← hbody, drop_getD]; exact HNN.out
      rw [hmark] at c0
      have HBODY := Lib.hid hbody
      have HCNT := Lib.hid hcnt
      have HOK := Lib.hid hok
      clear hbody hmark hcnt hok hRR HCS
      by_cases hm : markOf Hd = 0x57#8
      case neg =>
        have hm1 : ¬ bd (markOf Hd) = 87 := fun h => hm (bd_inj (h.trans rfl))
        have hm2 : (bd (markOf Hd) != 87) = true := by simpa using hm1
        have HRX : Hid (RES = (rec0, 11)) := Lib.hid (by rw [HR3.out, isHead_mark hm]; rfl)
        clear hm HR3
        go_wp2_with (refine wpList_store_row rfl 43 _ _ rfl g4 (recC rec0 (.slice none 0 0) 11) rfl rfl 43 _ r4 (by exact size_wrec) rfl (one_recC _ _ _) ?_)
        exact bodyPost_ret (v := .agg (recC rec0 (.slice none 0 0) 11)) (results_cell_row Try.results16 _ _ g4 43 (recC rec0 (.slice none 0 0) 11) (0, 0) _ rfl (r4.setRow _) Try.underlying43 rfl size_wrec) rfl (by rw [HRX.out]; exact told_no (below_setRow HGA.out.below HGA.out.lo4 _))
      have hm1 : bd (markOf Hd) = 87 := by rw [hm]; rfl
      have hm2 : (bd (markOf Hd) != 87) = false := by rw [hm1]; rfl
      have HM := Lib.hid hm
      clear hm
      by_cases h5 : n ≤ 5
      case neg =>
        have hq : decide ((5 : Int) < (n : Int)) = true := decide_eq_true (by omega)
        have HRX : Hid (RES = (rec0, 11)) := Lib.hid (by rw [HR3.out, isHead_many (by rw [HCNT.out]; exact h5)]; rfl)
        clear HR3
        go_wp2_with (refine wpList_store_row rfl 43 _ _ rfl g4 (recC rec0 (.slice none 0 0) 11) rfl rfl 43 _ r4 (by exact size_wrec) rfl (one_recC _ _ _) ?_)
        exact bodyPost_ret (v := .agg (recC rec0 (.slice none 0 0) 11)) (results_cell_row Try.results16 _ _ g4 43 (recC rec0 (.slice none 0 0) 11) (0, 0) _ rfl (r4.setRow _) Try.underlying43 rfl size_wrec) rfl (by rw [HRX.out]; exact told_no (below_setRow HGA.out.below HGA.out.lo4 _))
      have hq : decide ((5 : Int) < (n : Int)) = false := decide_eq_false (by omega)
      obtain ⟨LP, hLP⟩ : ∃ LP : Nat → List (Int × List (BitVec 8)), LP = fun k => (List.range k).map fun j => (((R.getD (10 + j) 0#8).toNat : Int), M.now (f.toNat + 1 + j)) := ⟨_, rfl⟩
      have HLP0 : Hid (LP 0 = []) := Lib.hid (by rw [hLP]; rfl)
      have HLPS : Hid (∀ k, LP (k + 1) = LP k ++ [(((R.getD (10 + k) 0#8).toNat : Int), M.now (f.toNat + 1 + k))]) := Lib.hid (fun k => by rw [hLP]; simp only [List.range_succ, List.map_append, List.map_singleton])
      have HLPL : Hid (∀ k, (LP k).length = k) := Lib.hid (fun k => by rw [hLP]; simp)
      have HREC : Hid (recAt M f.toNat = ⟨num (((R.drop 1).drop 0).take 4), num (((R.drop 1).drop 4).take 4), LP n⟩ ∧ atsOf Hd = (LP n).map (·.1)) := Lib.hid (by
        unfold recAt atsOf
        rw [HHD.out, HCNT.out, ← HBODY.out, hLP]
        refine ⟨?_, ?_⟩
        · congr 1
          apply List.map_congr_left
          intro k _
          rw [drop_getD, show 9 + k + 1 = 10 + k by omega]
        · rw [List.map_map]
          apply List.map_congr_left
          intro k _
          rw [drop_getD, show 9 + k + 1 = 10 + k by omega]; rfl)
      have HLPB : Hid (∀ x ∈ LP n, x.2.length = 32 ∧ -9223372036854775808 ≤ x.1 ∧ x.1 < 9223372036854775808) := Lib.hid (by
        rw [hLP]
        intro x hx
        obtain ⟨j, hj, rfl⟩ := List.mem_map.1 hx
        have hj := List.mem_range.1 hj
        exact ⟨now_length HOKM.out (by have := HM6.out; omega), by show -9223372036854775808 ≤ ((R.getD (10 + j) 0#8).toNat : Int); omega, by show ((R.getD (10 + j) 0#8).toNat : Int) < 9223372036854775808; have := (R.getD (10 + j) 0#8).isLt; omega⟩)
      clear hLP
      go_upto_region 11 with fail
      have hF0 : Wl [fun W => GetAt base w p M F g4 g7 R 0 W, fun W => GetAt base w p M F g4 g7 R 0 W] 0 W7.drew := HGA.out.same (Below.refl _ _).drew
      clear HGA r4 c9 c0 c30 hcv hm1 hm2 hq
      refine wp_region_phas [is (.slice (some ⟨g7, 1, none⟩) 29 29), is (.slice (some ⟨g7, 1, none⟩) 4 29), is (.int .u32 (wd (num (((R.drop 1).drop 0).take 4)))), is (.slice (some ⟨g7, 1, none⟩) 29 29), is (.slice (some ⟨g7, 5, none⟩) 4 25), is (.int .u32 (wd (num (((R.drop 1).drop 4).take 4)))), is (.agg (recC ⟨num (((R.drop 1).drop 0).take 4), num (((R.drop 1).drop 4).take 4), []⟩ (.slice none 0 0) 0)), (fun v W => ∃ g, v = Value.pointer (some ⟨g, 0, none⟩) ∧ Row W g 43 (recC rec0 (.slice none 0 0) 0) ∧ w.heap.size ≤ g ∧ g4 < g ∧ g7 < g), (fun v W => ∃ g, v = Value.pointer (some ⟨g, 0, none⟩) ∧ Row W g 43 (recC ⟨num (((R.drop 1).drop 0).take 4), num (((R.drop 1).drop 4).take 4), []⟩ (.slice none 0 0) 0) ∧ w.heap.size ≤ g ∧ g4 < g ∧ g7 < g)] [true, true, true, true, true, true, true, false, false] [(fun W => GetAt base w p M F g4 g7 R 0 W), (fun W => GetAt base w p M F g4 g7 R 0 W)] [false, false, false, false, false, false, false, false, true] [some 0, some 0, some 0, some 0, some 0, some 0, some 0, some 0, some 0] [none, none, none, none, none, none, none, none, some 7] [some 51, some 52, some 53, some 54, some 55, some 56, some 57, some 10, none] 9 1 (fun _ => true) rfl rfl (by kernel_rfl) (by kernel_rfl) (by kernel_rfl) (by kernel_rfl) (by kernel_rfl) ?_ ?_ ?_ ?_ ?_ ?_
      · repeat first | exact wok_nil | refine wok_cons (by first | exact fun _ _ h k => h.same k) ?_
      · repeat first | exact vok_nil | refine vok_rig (by first | exact fun _ _ _ h => h) ?_ | refine vok_soft (by first | exact fun _ _ _ h _ => h | exact fun _ _ _ h k => ⟨h.choose, h.choose_spec.1, h.choose_spec.2.1.call k, h.choose_spec.2.2⟩) ?_
      · exact hF0
      · repeat first | exact all_end (by decide) | refine all_cons (by first | exact rfl | exact ⟨rfl, fun _ _ h => Or.inl h⟩ | exact ⟨rfl, fun _ _ h => Or.inr ⟨h, rfl⟩⟩) ?_
      · refine alla_old rfl (step_mild 0 rfl rfl rfl (fun a x W hout hin hP => ?_)) ?_
        · have e8 : a.tmps[8]? = some (.slice (some ⟨g7, 1, none⟩) 29 29) := (hout 8 (by kernel_rfl)).trans rfl
          exact does_move rfl e8 ⟨Same.refl _, rfl⟩
        refine alla_old rfl (step_mild 0 rfl rfl rfl (fun a x W hout hin hP => ?_)) ?_
        · have e51 := hin.is 0 51 (by kernel_rfl) (by decide) (by kernel_rfl) (by kernel_rfl) _ rfl
          clear hin hout
          intro K Q hK
          go_simp
          exact hK _ _ ⟨Same.refl _, rfl⟩
        refine alla_old rfl (step_mild 0 rfl rfl rfl (fun a x W hout hin hP => ?_)) ?_
        · have e52 := hin.is 1 52 (by kernel_rfl) (by decide) (by kernel_rfl) (by kernel_rfl) _ rfl
          have hS := got_piece (k := 0) (n := 4) (c := 29) hP.r7 HRL.out (by decide) (by decide)
          have C := refnum_any _ _ W hS (by rw [List.length_take]; omega)
          clear hP
          clear hin hout
          intro K0 Q hK
          go_simp
          refine C.mono ?_
          rintro e W' ⟨rfl, rfl⟩
          exact hK _ _ ⟨Same.refl _, rfl⟩
        refine alla_old rfl (step_mild 0 rfl rfl rfl (fun a x W hout hin hP => ?_)) ?_
        · have e8 : a.tmps[8]? = some (.slice (some ⟨g7, 1, none⟩) 29 29) := (hout 8 (by kernel_rfl)).trans rfl
          exact does_move rfl e8 ⟨Same.refl _, rfl⟩
        refine alla_old rfl (step_mild 0 rfl rfl rfl (fun a x W hout hin hP => ?_)) ?_
        · have e54 := hin.is 3 54 (by kernel_rfl) (by decide) (by kernel_rfl) (by kernel_rfl) _ rfl
          clear hin hout
          intro K Q hK
          go_simp
          exact hK _ _ ⟨Same.refl _, rfl⟩
        refine alla_old rfl (step_mild 0 rfl rfl rfl (fun a x W hout hin hP => ?_)) ?_
        · have e55 := hin.is 4 55 (by kernel_rfl) (by decide) (by kernel_rfl) (by kernel_rfl) _ rfl
          have hS := got_piece (k := 4) (n := 4) (c := 25) hP.r7 HRL.out (by decide) (by decide)
          have C := refnum_any _ _ W hS (by rw [List.length_take]; omega)
          clear hP
          clear hin hout
          intro K0 Q hK
          go_simp
          refine C.mono ?_
          rintro e W' ⟨rfl, rfl⟩
          exact hK _ _ ⟨Same.refl _, rfl⟩
        refine alla_old rfl (step_mild 0 rfl rfl rfl (fun a x W hout hin hP => ?_)) ?_
        · have e53 := hin.is 2 53 (by kernel_rfl) (by decide) (by kernel_rfl) (by kernel_rfl) _ rfl
          have e56 := hin.is 5 56 (by kernel_rfl) (by decide) (by kernel_rfl) (by kernel_rfl) _ rfl
          clear hz hP
          generalize num (((R.drop 1).drop 0).take 4) = n1 at *
          generalize num (((R.drop 1).drop 4).take 4) = n2 at *
          clear hin hout
          intro K0 Q hK
          go_simp
          exact hK _ _ ⟨Same.refl _, rfl⟩
        refine alla_old rfl (step_mild 0 rfl rfl rfl (fun a x W hout hin hP => ?_)) ?_
        · have hG := hP
          clear hP
          clear hin hout
          intro K0 Q hK
          go_simp
          exact hK _ _ ⟨Same.alloc _ _, _, rfl, Row.fresh _ _ _, hG.below.size, hG.r4.lt, hG.r7.lt⟩
        refine alla_wild 0 rfl rfl rfl (fun a x W hout hin hP => ?_) ?_
        · obtain ⟨hw7, hx7⟩ := hin 7 (by kernel_rfl) (by decide)
          have hw7 := hw7 (.inr ⟨rfl, by kernel_rfl⟩)
          have hx7 := hx7 10 (by kernel_rfl)
          have e57 := hin.is 6 57 (by kernel_rfl) (by decide) (by kernel_rfl) (by kernel_rfl) _ rfl
          obtain ⟨g3, hg3, r3, hb3⟩ := hw7
          rw [hg3] at hx7
          clear hin hout
          intro K0 Q hK
          refine wp_store_row 43 (.tmp 10) (.tmp 57) rfl g3 (recC ⟨num (((R.drop 1).drop 0).take 4), num (((R.drop 1).drop 4).take 4), []⟩ (.slice none 0 0) 0) (eval_of_get hx7) (eval_of_get e57) 43 (recC rec0 (.slice none 0 0) 0) r3 (by exact size_wrec) rfl (one_recC _ _ _) ?_
          exact hK (x 7) _ ⟨hP.set hb3.1 (by omega) (by omega) _, ⟨g3, hg3, r3.setRow _, hb3⟩, al_one rfl rfl⟩
        exact all_end (by decide)
      · intro x V hP hV hal
        obtain ⟨g10, h8, r10, hb10⟩ := hV 8 (by decide) (.inr (by kernel_rfl))
        have h7 : x 7 = .pointer (some ⟨g10, 0, none⟩) := (hal 8 (by decide) 7 rfl).symm.trans h8
        have HG : Hid (GetAt base w p M F g4 g7 R 0 V) := Lib.hid hP
        have HR10 := Lib.hid r10
        have HB10 := Lib.hid hb10
        clear hV hP hal h8 r10 hb10
        simp only [putL, Act.put, List.setIfInBounds_toArray, List.set_cons_succ, List.set_cons_zero, h7]
        simp only [Nat.zero_add, Nat.reduceAdd]
        refine wpAnyH_done (by kernel_rfl) ?_ _
        clear h7
        obtain ⟨e0, he0⟩ : ∃ e, num (((R.drop 1).drop 0).take 4) = e := ⟨_, rfl⟩
        obtain ⟨s0, hs0⟩ : ∃ e, num (((R.drop 1).drop 4).take 4) = e := ⟨_, rfl⟩
        rw [he0, hs0] at HR10 HREC
        clear he0 hs0
        go_wp2_with fail
        go_loopw [11] (fun i wr => ∃ (k : Nat) (pv : Value), k ≤ n ∧ i = .int .i64 k ∧ GetAt base w p M F g4 g7 R 0 wr ∧ Row wr g10 43 (recC ⟨e0, s0, []⟩ pv 0) ∧ wr.ownsRow w.heap.size 70 33 pv k ((LP k).map pcell).flatten) (fun i _ => n - (intOf i).toNat)
        case atStart => exact ⟨0, _, by omega, rfl, HG.out, HR10.out, by rw [HLP0.out]; exact World.ownsRow_nil _ _ _ _⟩
        case round =>
          obtain ⟨k, pv, hk, rfl, hG, hR10, hO⟩ := hrel
          have HG := Lib.hid hG
          have HR10 := Lib.hid hR10
          have HO := Lib.hid hO
          clear hG hR10 hO
          by_cases hlt : k < n
          · have hq : decide ((k : Int) < (n : Int)) = true := decide_eq_true (by omega)
            have e1 : IntKind.i64.wrap (f + 1) = f + 1 := i64_id _ (by have := HM6.out; omega) (by have := HM6.out; have := HOKM.out.hi; omega)
            have e2 : IntKind.i64.wrap (f + 1 + (k : Int)) = f + 1 + (k : Int) := i64_id _ (by have := HM6.out; omega) (by have := HM6.out; have := HOKM.out.hi; omega)
            have C := HC3.out (f + 1 + (k : Int)) wr (by have := HM6.out; have := HOKM.out.hi; omega) HG.out.disk
            have hrr : M.rRes (f + 1 + (k : Int)) = (M.now (f.toNat + 1 + k), 0) := by
              have hhas : M.has (f + 1 + (k : Int)) = true := by unfold DiskM.has; have := HM6.out; simp; omega
              unfold DiskM.rRes
              rw [hhas, HDN.out, if_pos rfl, if_neg (by decide), show (f + 1 + (k : Int)).toNat = f.toNat + 1 + k by have := HM6.out; omega]
            have hDl := now_length HOKM.out (i := f.toNat + 1 + k) (by have := HM6.out; omega)
            have hLPS := HLPS.out k
            obtain ⟨D, hD⟩ : ∃ D, M.now (f.toNat + 1 + k) = D := ⟨_, rfl⟩
            rw [hrr, hD] at C
            rw [hD] at hDl hLPS
            have HDL := Lib.hid hDl
            have hzb := zeros_blk
            clear hrr hD hDl
            go_wp2_with fail
            refine C.mono ?_
            rintro e W12 ⟨rfl, hb12⟩
            have HG2 := Lib.hid ((HG.out.same hb12).same (Same.alloc W12 (.cells (bs D) 52)))
            have HR102 := Lib.hid ((HR10.out.call hb12).alloc (.cells (bs D) 52))
            have HO2 := Lib.hid ((owns_call HO.out hb12).alloc (.cells (bs D) 52))
            have R12 := Lib.hid (Row.fresh W12 52 (bs D))
            clear C hb12 HG HR10 HO
            go_upto_region 18 with (refine wpList_store_row rfl 52 _ _ rfl W12.heap.size (bs D) rfl rfl 52 _ (Row.fresh _ _ _) (by rw [size_bs, HDL.out]; exact size_blk) (by rw [size_bs, size_bs, length_blk, HDL.out]) (one_bs _) ?_; rw [World.setRow_alloc_new])
            clear hzb e1 e2 hq
            obtain ⟨g12, hg12⟩ : ∃ g, W12.heap.size = g := ⟨_, rfl⟩
            rw [hg12] at R12
            rw [hg12]
            clear hg12
            generalize W12.alloc (.cells (bs D) 52) = W13 at *
            obtain ⟨y, hy⟩ : ∃ y, R.getD (10 + k) 0#8 = y := ⟨_, rfl⟩
            rw [hy] at hLPS
            have HY := Lib.hid hy
            have HLS := Lib.hid hLPS
            clear hLPS hy
            have hF0 : Wl [fun W => GetAt base w p M F g4 g7 R 0 W ∧ Row W g10 43 (recC ⟨e0, s0, []⟩ pv 0) ∧ Row W g12 52 (bs D) ∧ W.ownsRow w.heap.size 70 33 pv k ((LP k).map pcell).flatten, fun _ => True, fun W => GetAt base w p M F g4 g7 R 0 W ∧ ∃ pv2, Row W g10 43 (recC ⟨e0, s0, []⟩ pv2 0) ∧ W.ownsRow w.heap.size 70 33 pv2 (k + 1) ((LP (k + 1)).map pcell).flatten] 0 W13.drew := ⟨HG2.out.same (Below.refl _ _).drew, HR102.out.drew, R12.out.drew, owns_call HO2.out (Below.refl _ _).drew⟩
            clear HG2 HR102 R12 HO2
            refine wp_region_phs [is (.pointer (some ⟨g10, 2, none⟩)), is (pv), is (.slice (some ⟨g7, 1, none⟩) 29 29), is (.int .i64 (k : Int)), is (.int .i64 (9 + (k : Int))), is (.pointer (some ⟨g7, 1 + (9 + k), none⟩)), is (.int .u8 (bd y)), is (.int .i64 (y.toNat : Int)), is (.agg (bs D)), is (.agg (pcell ((y.toNat : Int), D)).toArray), (elit 70 (pcell ((y.toNat : Int), D))), (fun v W => GetAt base w p M F g4 g7 R 0 W ∧ Row W g10 43 (recC ⟨e0, s0, []⟩ pv 0) ∧ W.ownsRow w.heap.size 70 33 v (k + 1) ((LP (k + 1)).map pcell).flatten), is (.pointer (some ⟨g10, 2, none⟩)), anyV] [true, true, true, true, true, true, true, true, true, true, false, false, true, true] [(fun W => GetAt base w p M F g4 g7 R 0 W ∧ Row W g10 43 (recC ⟨e0, s0, []⟩ pv 0) ∧ Row W g12 52 (bs D) ∧ W.ownsRow w.heap.size 70 33 pv k ((LP k).map pcell).flatten), (fun _ => True), (fun W => GetAt base w p M F g4 g7 R 0 W ∧ ∃ pv2, Row W g10 43 (recC ⟨e0, s0, []⟩ pv2 0) ∧ W.ownsRow w.heap.size 70 33 pv2 (k + 1) ((LP (k + 1)).map pcell).flatten)] [false, false, false, false, false, false, false, false, false, false, false, true, false, true] [some 0, some 0, some 0, some 0, some 0, some 0, some 0, some 0, some 0, some 0, some 0, some 0, some 1, some 1] [some 76, some 77, some 78, some 79, some 80, some 81, some 82, some 83, some 84, some 85, some 86, some 87, some 88, none] 14 2 (fun _ => true) rfl rfl (by kernel_rfl) (by kernel_rfl) (by kernel_rfl) (by kernel_rfl) ?_ ?_ ?_ ?_ ?_ ?_
            · repeat first | exact wok_nil | refine wok_cons (by first | exact fun _ _ h k => ⟨h.1.same k, h.2.1.call k, h.2.2.1.call k, owns_call h.2.2.2 k⟩ | exact fun _ _ h _ => h | exact fun _ _ h k => ⟨h.1.same k, h.2.choose, h.2.choose_spec.1.call k, owns_call h.2.choose_spec.2 k⟩) ?_
            · repeat first | exact vok_nil | refine vok_rig (by first | exact fun _ _ _ h => h) ?_ | refine vok_soft (by first | exact fun _ _ _ h _ => h | exact fun _ _ _ h k => elit_stays h k | exact fun _ _ _ h k => ⟨h.1.same k, h.2.1.call k, owns_call h.2.2 k⟩) ?_
            · exact hF0
            · repeat first | exact all_end (by decide) | refine all_cons (by first | exact rfl | exact ⟨rfl, fun _ _ h => Or.inl h⟩ | exact ⟨rfl, fun _ _ h => Or.inr ⟨h, rfl⟩⟩) ?_
            · refine allp_mild 0 rfl rfl rfl (fun a x W hout hin hP => ?_) ?_
              · have e10 : a.tmps[10]? = some (.pointer (some ⟨g10, 0, none⟩)) := (hout 10 (by kernel_rfl)).trans rfl
                clear hin hout
                intro K Q hK
                go_simp
                exact hK _ _ ⟨Same.refl _, rfl⟩
              refine allp_mild 0 rfl rfl rfl (fun a x W hout hin hP => ?_) ?_
              · have e76 := hin.is 0 76 (by kernel_rfl) (by decide) (by kernel_rfl) (by kernel_rfl) _ rfl
                have hc : W.cell? ⟨g10, 2, none⟩ = some pv := hP.2.1.get rfl
                clear hP
                clear hin hout
                intro K0 Q hK
                go_simp
                exact hK _ _ ⟨Same.refl _, rfl⟩
              refine allp_mild 0 rfl rfl rfl (fun a x W hout hin hP => ?_) ?_
              · have e8 : a.tmps[8]? = some (.slice (some ⟨g7, 1, none⟩) 29 29) := (hout 8 (by kernel_rfl)).trans rfl
                exact does_move rfl e8 ⟨Same.refl _, rfl⟩
              refine allp_mild 0 rfl rfl rfl (fun a x W hout hin hP => ?_) ?_
              · have e11 : a.tmps[11]? = some (.int .i64 (k : Int)) := (hout 11 (by kernel_rfl)).trans rfl
                exact does_move rfl e11 ⟨Same.refl _, rfl⟩
              refine allp_mild 0 rfl rfl rfl (fun a x W hout hin hP => ?_) ?_
              · have e79 := hin.is 3 79 (by kernel_rfl) (by decide) (by kernel_rfl) (by kernel_rfl) _ rfl
                have e9 : IntKind.i64.wrap (9 + (k : Int)) = 9 + (k : Int) := i64_id _ (by omega) (by omega)
                clear hin hout
                intro K0 Q hK
                go_simp
                exact hK _ _ ⟨Same.refl _, rfl⟩
              refine allp_mild 0 rfl rfl rfl (fun a x W hout hin hP => ?_) ?_
              · have e78 := hin.is 2 78 (by kernel_rfl) (by decide) (by kernel_rfl) (by kernel_rfl) _ rfl
                have e80 := hin.is 4 80 (by kernel_rfl) (by decide) (by kernel_rfl) (by kernel_rfl) _ rfl
                have hi1 : (9 : Int) + (k : Int) < 29 := by omega
                have hi0 : (0 : Int) ≤ 9 + (k : Int) := by omega
                have hi3 : ((9 : Int) + (k : Int)).toNat = 9 + k := by omega
                clear hin hout
                intro K0 Q hK
                go_simp
                exact hK _ _ ⟨Same.refl _, rfl⟩
              refine allp_mild 0 rfl rfl rfl (fun a x W hout hin hP => ?_) ?_
              · have e81 := hin.is 5 81 (by kernel_rfl) (by decide) (by kernel_rfl) (by kernel_rfl) _ rfl
                have hc : W.cell? ⟨g7, 1 + (9 + k), none⟩ = some (.int .u8 (bd y)) := by have := got_at hP.1.r7 HRL.out (i := 10 + k) (by omega); rw [HY.out] at this; rw [show 1 + (9 + k) = 10 + k by omega]; exact this
                clear hP
                clear hin hout
                intro K0 Q hK
                go_simp
                exact hK _ _ ⟨Same.refl _, rfl⟩
              refine allp_mild 0 rfl rfl rfl (fun a x W hout hin hP => ?_) ?_
              · have e82 := hin.is 6 82 (by kernel_rfl) (by decide) (by kernel_rfl) (by kernel_rfl) _ rfl
                have hcv : IntKind.i64.wrap (bd y) = (y.toNat : Int) := by rw [show bd y = (y.toNat : Int) from rfl]; exact i64_id _ (by omega) (by have := y.isLt; omega)
                clear hin hout
                intro K0 Q hK
                go_simp
                exact hK _ _ ⟨Same.refl _, rfl⟩
              refine allp_mild 0 rfl rfl rfl (fun a x W hout hin hP => ?_) ?_
              · have e12 : a.tmps[12]? = some (.pointer (some ⟨g12, 0, none⟩)) := (hout 12 (by kernel_rfl)).trans rfl
                clear hin hout
                intro K0 Q hK
                refine wp_load_mid 52 (.tmp 12) rfl g12 0 (eval_of_get e12) (bs D).toList _ (row_range hP.2.2.1 (Below.refl _ _) hP.2.2.1.lt) Try.underlying52 rfl (by rw [len_bs, HDL.out]; exact size_blk) ?_
                exact hK _ _ ⟨Same.refl _, by simp [Vs, is]⟩
              refine allp_mild 0 rfl rfl rfl (fun a x W hout hin hP => ?_) ?_
              · have e83 := hin.is 7 83 (by kernel_rfl) (by decide) (by kernel_rfl) (by kernel_rfl) _ rfl
                have e84 := hin.is 8 84 (by kernel_rfl) (by decide) (by kernel_rfl) (by kernel_rfl) _ rfl
                clear hin hout
                intro K0 Q hK
                refine wp_buildStruct 70 _ rfl places_put [.int .i64 (y.toNat : Int), .agg (bs D)] ?_ (by rw [show ([Value.int .i64 (y.toNat : Int), .agg (bs D)].map (·.cells.size)) = [1, 32] by simp [Value.cells, size_bs, HDL.out]]; rfl) (by simp [Value.cells, size_bs, HDL.out]) ?_
                · simp only [List.map_toArray, List.map_cons, List.map_nil, eval_of_get e83, eval_of_get e84]; rfl
                · exact hK _ _ ⟨Same.refl _, pcell_eq _ _⟩
              refine allp_mild 0 rfl rfl rfl (fun a x W hout hin hP => ?_) ?_
              · have e85 := hin.is 9 85 (by kernel_rfl) (by decide) (by kernel_rfl) (by kernel_rfl) _ rfl
                clear hin hout hP
                intro K0 Q hK
                refine wp_buildOne 34 70 (.tmp 85) rfl (pcell ((y.toNat : Int), D)).toArray _ 33 (eval_of_get e85) Try.underlying34 info_put2 (by rw [List.size_toArray, len_pcell HDL.out]) (by decide) (by decide) ?_
                exact hK _ _ ⟨Same.alloc _ _, elit_new W _ _⟩
              refine allp_wild 0 rfl rfl rfl (fun a x W hout hin hP => ?_) ?_
              · have e77 := hin.is 1 77 (by kernel_rfl) (by decide) (by kernel_rfl) (by kernel_rfl) _ rfl
                obtain ⟨v86, e86, hv86⟩ := hin.get 10 86 (by kernel_rfl) (by decide) (by kernel_rfl) (.inr ⟨rfl, by kernel_rfl⟩)
                clear hout
                intro K0 Q hK
                obtain ⟨g8, fr8, rfl, hg8⟩ := hv86
                obtain ⟨H1, H2, H3, H4⟩ := hP
                refine wp_append_where (.tmp 77) (.tmp 86) 34 rfl w.heap.size 70 33 40 _ Try.underlying34 info_put rfl (by decide) pv _ _ (eval_of_get e77) H4 ⟨g8, 0, none⟩ 1 1 (pcell ((y.toNat : Int), D)) (eval_of_get e86) (by rw [len_pcell HDL.out]) (fun j u hu => by rw [Addr.add_mid, Nat.zero_add, cell_of_row W g8 j _ _ _ hg8]; simpa using hu) one_pcell0 (by unfold maxLen; omega) (by omega) H1.below.size ?_
                intro v3 w3 own3 hg3 hw3
                have hc3 : Chg (fun k => pv.ownBlock = some k) W w3 := (Chg.refl _ W).grown hg3 (fun k hk => .inl hk)
                have hap := own_apart H4 H2 (by decide)
                have hap4 := own_apart H4 H1.r4 (by decide)
                have hap7 := own_apart H4 H1.r7 (by decide)
                exact hK _ _ ⟨trivial, H1.chg hc3 (fun k hk => ⟨(H4.lt k hk).1, hap4 k hk, hap7 k hk⟩), H2.chg hc3 (fun hk => hap g10 hk rfl), by rw [HLS.out, List.map_append, List.flatten_append]; simpa using own3⟩
              refine allp_mild 1 rfl rfl rfl (fun a x W hout hin hP => ?_) ?_
              · have e10 : a.tmps[10]? = some (.pointer (some ⟨g10, 0, none⟩)) := (hout 10 (by kernel_rfl)).trans rfl
                clear hin hout
                intro K Q hK
                go_simp
                exact hK _ _ ⟨Same.refl _, rfl⟩
              refine allp_wild 1 rfl rfl rfl (fun a x W hout hin hP => ?_) ?_
              · have e88 := hin.is 12 88 (by kernel_rfl) (by decide) (by kernel_rfl) (by kernel_rfl) _ rfl
                obtain ⟨v87, e87, hv87⟩ := hin.get 11 87 (by kernel_rfl) (by decide) (by kernel_rfl) (.inr ⟨rfl, by kernel_rfl⟩)
                obtain ⟨H1, H2, H3⟩ := hv87
                have hcc : W.cell? ⟨g10, 2, none⟩ = some pv := H2.get rfl
                have hff := H2.free 2
                have hcg : Chg (fun k => k = g10) W (W.setCell ⟨g10, 2, none⟩ v87) := Chg.one W g10 2 _
                obtain ⟨A9, c9, rfl⟩ := own_slice_form' H3
                have HN : Hid (GetAt base w p M F g4 g7 R 0 (W.setCell ⟨g10, 2, none⟩ (.slice A9 (k + 1) c9)) ∧ ∃ pv2, Row (W.setCell ⟨g10, 2, none⟩ (.slice A9 (k + 1) c9)) g10 43 (recC ⟨e0, s0, []⟩ pv2 0) ∧ (W.setCell ⟨g10, 2, none⟩ (.slice A9 (k + 1) c9)).ownsRow w.heap.size 70 33 pv2 (k + 1) ((LP (k + 1)).map pcell).flatten) := Lib.hid ⟨H1.chg hcg (fun k hk => by subst hk; have := HB10.out; exact ⟨this.1, by omega, by omega⟩), _, H2.put 2 _, own_chg H3 hcg (own_apart H3 H2 (by decide))⟩
                clear H1 H2 H3 hcg
                clear hin hout
                intro K0 Q hK
                go_simp
                exact hK undef _ ⟨HN.out, trivial⟩
              exact all_end (by decide)
            · intro x V2 hP hV
              obtain ⟨hG2, pv2, hR2, hO2⟩ := hP
              clear hV
              have HQ9 := Lib.hid (And.intro hG2 (And.intro hR2 hO2))
              clear hG2 hR2 hO2
              simp only [putL, Act.put, List.setIfInBounds_toArray, List.set_cons_succ, List.set_cons_zero]
              refine wpAnyH_done (by kernel_rfl) ?_ _
              go_wp2_with fail
              exact ⟨⟨k + 1, pv2, by omega, by go_num, HQ9.out.1, HQ9.out.2.1, HQ9.out.2.2⟩, by simp [intOf] <;> omega⟩
          · obtain rfl : k = n := by omega
            have hq : decide ((k : Int) < (k : Int)) = false := decide_eq_false (by omega)
            go_wp2_with fail
            have e9 : IntKind.i64.wrap (9 + (k : Int)) = 9 + (k : Int) := i64_id _ (by omega) (by omega)
            clear hq
            go_loopw [14] (fun i wr' => ∃ j : Nat, 9 + k ≤ j ∧ j ≤ 29 ∧ i = .int .i64 j ∧ wr' = wr ∧ ∀ m, 9 + k ≤ m → m < j → R.getD (m + 1) 0#8 = 0#8) (fun i _ => 29 - (intOf i).toNat)
            case atStart => exact ⟨9 + k, by omega, by omega, by go_num, rfl, fun m h1 h2 => by omega⟩
            case round =>
              obtain ⟨j, hj1, hj2, rfl, rfl, hz0⟩ := hrel
              have HZ := Lib.hid hz0
              clear hz0
              by_cases hlt2 : j < 29
              · have hq : decide ((j : Int) < 29) = true := decide_eq_true (by omega)
                have hjp : (0 : Int) ≤ (j : Int) := by omega
                have hjq : (j : Int) < 29 := by omega
                have hcell := got_at HG.out.r7 HRL.out (i := 1 + j) (by omega)
                obtain ⟨y, hy⟩ : ∃ y, R.getD (1 + j) 0#8 = y := ⟨_, rfl⟩
                rw [hy] at hcell
                have HY := Lib.hid hy
                clear hy
                by_cases hy0 : y = 0#8
                · have hb0 : (bd y == 0) = true := by rw [hy0]; rfl
                  have hb1 : bd y = 0 := by rw [hy0]; rfl
                  have HY0 := Lib.hid hy0
                  clear hy0
                  go_wp2_with fail
                  refine ⟨⟨j + 1, by omega, by omega, by go_num, trivial, fun m h1 h2 => ?_⟩, by simp [intOf] <;> omega⟩
                  rcases Nat.lt_or_eq_of_le (Nat.le_of_lt_succ h2) with h3 | rfl
                  · exact HZ.out m h1 h3
                  · rw [Nat.add_comm, HY.out]; exact HY0.out
                · have hb1 : ¬ bd y = 0 := fun h => hy0 (bd_inj (h.trans rfl))
                  have hb0 : (bd y == 0) = false := by simpa using hb1
                  have r4 := HG.out.r4
                  have HRX : Hid (RES = (rec0, 11)) := Lib.hid (by
                    rw [HR3.out, isHead_behind (i := j - (9 + k)) (by rw [HCNT.out]; omega) (by rw [HCNT.out, ← HBODY.out, drop_getD, show 9 + k + (j - (9 + k)) + 1 = 1 + j by omega, HY.out]; exact hy0)]; rfl)
                  clear hy0
                  go_wp2_with (refine wpList_store_row rfl 43 _ _ rfl g4 (recC rec0 (.slice none 0 0) 11) rfl rfl 43 _ r4 (by exact size_wrec) rfl (one_recC _ _ _) ?_)
                  exact bodyPost_ret (v := .agg (recC rec0 (.slice none 0 0) 11)) (results_cell_row Try.results16 _ _ g4 43 (recC rec0 (.slice none 0 0) 11) (0, 0) _ rfl (r4.setRow _) Try.underlying43 rfl size_wrec) rfl (by rw [HRX.out]; exact told_no (below_setRow HG.out.below HG.out.lo4 _))
              · obtain rfl : j = 29 := by omega
                have hq : decide (((29 : Nat) : Int) < 29) = false := decide_eq_false (by omega)
                have hputs := puts_own (l := LP k) (by rw [HLPL.out]; exact HO.out) HLPB.out
                obtain ⟨A9, c9, rfl⟩ := own_slice_form' HO.out
                have HPU := Lib.hid hputs
                have CG := refgood_any (LP k) _ wr hputs (by rw [HLPL.out]; unfold maxLen; omega)
                have hcell : wr.cell? ⟨g10, 2, none⟩ = some (.slice A9 k c9) := HR10.out.get rfl
                have r4 := HG.out.r4
                have HISH : Hid (isHead Hd = goodB ((LP k).map (·.1))) := Lib.hid (by
                  rw [← HREC.out.2]
                  exact isHead_is HOK.out HM.out (by rw [HCNT.out]; exact h5) (fun i hi => by rw [HCNT.out] at hi ⊢; rw [← HBODY.out, drop_getD]; exact HZ.out (9 + k + i) (by omega) (by omega)))
                obtain ⟨gd, hgd⟩ : ∃ gd, goodB ((LP k).map (·.1)) = gd := ⟨_, rfl⟩
                rw [hgd] at CG HISH
                clear hputs hgd
                go_wp2_with fail
                refine CG.mono ?_
                rintro e W9 ⟨rfl, hb9⟩
                have HG9 := Lib.hid (HG.out.same hb9)
                have HR9 := Lib.hid (HR10.out.call hb9)
                have r4 := HG9.out.r4
                have r10 := HR9.out
                have HPU9 := Lib.hid (HPU.out.below hb9 (Nat.le_refl _))
                cases gd with
                | false =>
                  have HRX : Hid (RES = (rec0, 11)) := Lib.hid (by rw [HR3.out, HISH.out]; rfl)
                  go_wp2_with (refine wpList_store_row rfl 43 _ _ rfl g4 (recC rec0 (.slice none 0 0) 11) rfl rfl 43 _ r4 (by exact size_wrec) rfl (one_recC _ _ _) ?_)
                  exact bodyPost_ret (v := .agg (recC rec0 (.slice none 0 0) 11)) (results_cell_row Try.results16 _ _ g4 43 (recC rec0 (.slice none 0 0) 11) (0, 0) _ rfl (r4.setRow _) Try.underlying43 rfl size_wrec) rfl (by rw [HRX.out]; exact told_no (below_setRow HG9.out.below HG9.out.lo4 _))
                | true =>
                  have HRX : Hid (RES = (⟨e0, s0, LP k⟩, 0)) := Lib.hid (by rw [HR3.out, HISH.out, HREC.out.1]; rfl)
                  go_wp2_with (first | (refine wpList_load_row rfl 43 _ rfl g10 rfl 43 (recC ⟨e0, s0, []⟩ (.slice A9 k c9) 0) (0, 0) _ r10 Try.underlying43 rfl size_wrec ?_) | (refine wpList_store_row rfl 43 _ _ rfl g4 (recC ⟨e0, s0, []⟩ (.slice A9 k c9) 0) rfl rfl 43 _ r4 (by exact size_wrec) rfl (one_recC _ _ _) ?_))
                  refine bodyPost_ret (v := .agg (recC ⟨e0, s0, []⟩ (.slice A9 k c9) 0)) (results_cell_row Try.results16 _ _ g4 43 (recC ⟨e0, s0, []⟩ (.slice A9 k c9) 0) (0, 0) _ rfl (r4.setRow _) Try.underlying43 rfl size_wrec) rfl ?_
                  rw [HRX.out]
                  exact ⟨_, rfl, HPU9.out.chg ((Chg.refl (fun j => some g4 = some j) W9).grown (grown_setRow W9 g4 _) (fun k hk => .inl hk)) (fun j hj he => by cases he; exact own_apart HO.out HG.out.r4 (by decide) g4 hj rfl), below_setRow HG9.out.below HG9.out.lo4 _, fun j hj => (HO.out.lt j hj).1⟩
end Go.Proofs.Ytcdcongeogmfkaa

/- The document's Put and Get of no disk. -/
set_option maxRecDepth 4000
namespace Go.Proofs.Ytcdcongeogmfkaa
open Go Go.RowKit
theorem refmay_nil (w : World) (f : Int) : Calls Try.prog 33 #[nilPtr, .int .i64 f] w fun e w' => e = .returned (.bool false) ∧ w = w' := by
  unfold nilPtr
  go_enter Try.func33, Try.ntmps33
  go_wp2_with fail
  go_ret
  exact ⟨rfl, rfl⟩
theorem refwput_nil (w : World) (f : Int) (cs : Array Value) : Calls Try.prog 13 #[nilPtr, .int .i64 f, .agg cs] w (Asks w (.int .i64 1)) := by
  have C := fun W => refmay_nil W f
  unfold nilPtr at *
  go_enter Try.func13, Try.ntmps13
  go_upto_region 1 with fail
  have C1 := C (w.alloc (.cells cs 43))
  clear C
  go_wp2_with fail
  refine C1.mono ?_
  rintro e w1 ⟨rfl, rfl⟩
  clear C1
  go_wp2_with fail
  go_ret
  exact ⟨rfl, Same.alloc _ _⟩
theorem refwget_nil (w : World) (f : Int) : Calls Try.prog 16 #[nilPtr, .int .i64 f] w (Told w rec0 1) := by
  have C := fun W => refmay_nil W f
  have hz := zeros_recC
  unfold nilPtr at *
  go_enter Try.func16, Try.ntmps16
  go_upto_region 1 with fail
  have r4 := Row.fresh w 43 (recC rec0 (.slice none 0 0) 0)
  have C1 := C (w.alloc (.cells (recC rec0 (.slice none 0 0) 0) 43))
  have hb := Same.alloc w (.cells (recC rec0 (.slice none 0 0) 0) 43)
  clear C
  go_wp2_with fail
  refine C1.mono ?_
  rintro e w1 ⟨rfl, rfl⟩
  clear C1
  go_wp2_with (refine wpList_store_row rfl 43 _ _ rfl w.heap.size (recC rec0 (.slice none 0 0) 1) rfl rfl 43 _ r4 (by exact size_wrec) rfl (one_recC _ _ _) ?_)
  exact bodyPost_ret (v := .agg (recC rec0 (.slice none 0 0) 1)) (results_cell_row Try.results16 _ _ w.heap.size 43 (recC rec0 (.slice none 0 0) 1) (0, 0) _ rfl (r4.setRow _) Try.underlying43 rfl size_wrec) rfl (told_no (below_setRow hb (Nat.le_refl _) _))
end Go.Proofs.Ytcdcongeogmfkaa

/- What the statements of wal need to know of the program's wal, over the program's disk. -/
set_option maxRecDepth 4000
namespace Go.Proofs.Ytcdcongeogmfkaa
open Go Go.RowKit
def recW (r : Rec) (v : Value) : Array Value := #[.int .u32 (wd r.e), .int .u32 (wd r.s), v]
/- the answer: a record, its puts in new memory, and an error -/
def ToldP (w : World) (r : Rec) (err : Int) : Ending → World → Prop := fun e w' => ∃ A c, e = .returned (.tuple #[.agg (recW r (.slice A r.l.length c)), .int .i64 err]) ∧ PutsAt w' (.slice A r.l.length c) r.l ∧ Below w.heap.size w w' ∧ ∀ k, (Value.slice A r.l.length c).ownBlock = some k → w.heap.size ≤ k
structure WalOps (D : DiskOps) : Prop where
  good : ∀ (l : List (Int × List (BitVec 8))) (v : Value) (w : World), PutsAt w v l → l.length ≤ maxLen → Calls Try.prog 24 #[v] w fun e w' => e = .returned (.bool (goodB (l.map (·.1)))) ∧ Below w.heap.size w w'
  put : ∀ (base : Nat) (w : World) (p : Value) (M : DiskM) (F : Nat → Prop) (f : Int) (e0 s0 : BitVec 32) (A : Option Addr) (c : Nat) (l : List (Int × List (BitVec 8))), D.A base w p M F → (-9223372036854775808 ≤ f ∧ f < 9223372036854775808) → PutsAt w (.slice A l.length c) l → l.length ≤ maxLen →
    (l ≠ [] → ∀ k, (Value.slice A l.length c).ownBlock = some k → k < w.heap.size ∧ ¬ F k) → M.l.length + 10 ≤ few → base ≤ w.heap.size → Calls Try.prog 12 #[p, .int .i64 f, .agg (recW ⟨e0, s0, l⟩ (.slice A l.length c))] w (Acts D.A base w p F (walPut M f ⟨e0, s0, l⟩).2 (.int .i64 (walPut M f ⟨e0, s0, l⟩).1))
  putNil : ∀ (w : World) (f : Int) (e0 s0 : BitVec 32) (A : Option Addr) (c : Nat) (l : List (Int × List (BitVec 8))), (-9223372036854775808 ≤ f ∧ f < 9223372036854775808) → PutsAt w (.slice A l.length c) l → l.length ≤ maxLen → Calls Try.prog 12 #[nilPtr, .int .i64 f, .agg (recW ⟨e0, s0, l⟩ (.slice A l.length c))] w (Asks w (.int .i64 1))
  get : ∀ (base : Nat) (w : World) (p : Value) (M : DiskM) (F : Nat → Prop) (f : Int), D.A base w p M F → (-9223372036854775808 ≤ f ∧ f < 9223372036854775808) → M.l.length ≤ few → Calls Try.prog 15 #[p, .int .i64 f] w (ToldP w (walGet M f).1 (walGet M f).2)
  getNil : ∀ (w : World) (f : Int), (-9223372036854775808 ≤ f ∧ f < 9223372036854775808) → Calls Try.prog 15 #[nilPtr, .int .i64 f] w (ToldP w rec0 1)
end Go.Proofs.Ytcdcongeogmfkaa

/- Arguments that are records opened. -/
set_option maxRecDepth 4000
namespace Go.Proofs.Ytcdcongeogmfkaa
open Go Go.ChangeShapes Go.WideShapes Go.ChangeAt Go.RowKit
def rdRec : Rd (BitVec 32 × BitVec 32 × List (Int × List (BitVec 8)) × Unit) := rdCons 1 rdU32 (rdCons 1 rdU32 (rdCons 1 (rdSl 33 rdPut) rdNil))
theorem cellsU32r : Try.prog.cellsOf 33 = 1 := by kernel_rfl
theorem cellsPutsr : Try.prog.cellsOf 34 = 1 := by kernel_rfl
theorem opens_rec : Opens Try.prog 36 rdRec :=
  opens_struct Try.underlying36 (by kernel_rfl) (opensF_cons rfl cellsU32r (opens_u32 Try.underlying33) (opensF_cons rfl cellsU32r (opens_u32 Try.underlying33) (opensF_cons rfl cellsPutsr opens_puts opensF_nil)))
theorem rec_at {W : World} {ds : List Value} {x : BitVec 32 × BitVec 32 × List (Int × List (BitVec 8)) × Unit} (h : rdRec W ds x) : ∃ A c, ds.toArray = recW ⟨x.1, x.2.1, x.2.2.1⟩ (.slice A x.2.2.1.length c) ∧ PutsAt W (.slice A x.2.2.1.length c) x.2.2.1 ∧ x.2.2.1.length ≤ maxLen := by
  obtain ⟨e, s, l, u⟩ := x
  obtain ⟨c0, d0, rfl, _, h0, c1, d1, rfl, _, h1, c2, d2, rfl, _, h2, h3⟩ := h
  have h0 : c0 = [.int .u32 (wd e)] := h0
  have h1 : c1 = [.int .u32 (wd s)] := h1
  have h3 : d2 = [] := h3
  subst h0 h1 h3
  have h2' := h2
  obtain ⟨A, c, rfl, _, _, hm, _⟩ := h2'
  exact ⟨A, c, rfl, puts_at h2, hm⟩
end Go.Proofs.Ytcdcongeogmfkaa

/- The steps of a log's story, as they are handed in; whether they are not too many, nor too long. -/
set_option maxRecDepth 4000
namespace Go.Proofs.Ytcdcongeogmfkaa
open Go Go.ChangeShapes Go.WideShapes Go.ChangeAt Go.RowKit
structure Step8 where
  kind : Int
  i : Int
  r : Rec
  body : List (BitVec 8)
  keep : List (BitVec 8)
def rdStep8 : Rd Step8 := rdMap (fun x => ⟨x.1, x.2.1, ⟨x.2.2.1.1, x.2.2.1.2.1, x.2.2.1.2.2.1⟩, x.2.2.2.1, x.2.2.2.2.1⟩) (rdCons 1 (rdInt .i64) (rdCons 1 (rdInt .i64) (rdCons 3 rdRec (rdCons 1 (rdSl 1 rdU8) (rdCons 1 (rdSl 1 rdU8) rdNil)))))
theorem cellsInt8 : Try.prog.cellsOf 3 = 1 := by kernel_rfl
theorem cellsU88 : Try.prog.cellsOf 5 = 1 := by kernel_rfl
theorem cellsBytes8 : Try.prog.cellsOf 37 = 1 := by kernel_rfl
theorem cellsRec8 : Try.prog.cellsOf 36 = 3 := by kernel_rfl
theorem cellsStep8 : Try.prog.cellsOf 39 = 7 := by kernel_rfl
theorem opens_bytes8 : Opens Try.prog 37 (rdSl 1 rdU8) := opens_sl Try.underlying37 cellsU88 (by decide) (opens_u8 Try.underlying5)
theorem opens_step8 : Opens Try.prog 39 rdStep8 :=
  opens_map (opens_struct Try.underlying39 (by kernel_rfl) (opensF_cons rfl cellsInt8 (opens_int Try.underlying3) (opensF_cons rfl cellsInt8 (opens_int Try.underlying3) (opensF_cons rfl cellsRec8 opens_rec (opensF_cons rfl cellsBytes8 opens_bytes8 (opensF_cons rfl cellsBytes8 opens_bytes8 opensF_nil))))))
theorem opens_steps8 : Opens Try.prog 23 (rdSl 7 rdStep8) := opens_sl Try.underlying23 cellsStep8 (by decide) opens_step8
theorem open_steps8 {H : Type} {enc : TypeId × Value → H} {W : World} {r : Reach} {base : Nat} {v : Value} {d : DataW H} {ps : List MemPlace} (hval : Value.okWide Try.prog W r base 23 v)
    (h : DataW.Trod enc Try.prog W 0 (fun _ => true) true 23 v d ps) (hlt : ∀ x ∈ ps, x.block < W.heap.size) :
    ∃ A c l, v = .slice A l.length c ∧ rdSl 7 rdStep8 W [.slice A l.length c] l := open_argSl Try.underlying23 opens_steps8 hval h hlt
structure StepAt8 (w : World) (b o : Nat) (x : Step8) : Prop where
  kind : w.cell? ⟨b, o, none⟩ = some (.int .i64 x.kind)
  i : w.cell? ⟨b, o + 1, none⟩ = some (.int .i64 x.i)
  rec_ : ∃ A c, w.rangeAt b (o + 2) (recW x.r (.slice A x.r.l.length c)).toList ∧ PutsAt w (.slice A x.r.l.length c) x.r.l ∧ x.r.l.length ≤ maxLen
  body : ∃ u, w.cell? ⟨b, o + 5, none⟩ = some u ∧ Item w u x.body
  keep : ∃ u, w.cell? ⟨b, o + 6, none⟩ = some u ∧ Item w u x.keep
  wk : -9223372036854775808 ≤ x.kind ∧ x.kind < 9223372036854775808
  wi : -9223372036854775808 ≤ x.i ∧ x.i < 9223372036854775808
theorem step_cells8 {w : World} {ds : List Value} {x : Step8} {b o : Nat} (h : rdStep8 w ds x) (hr : w.rangeAt b o ds) : StepAt8 w b o x := by
  obtain ⟨⟨k, i, rr, bd', kp, _⟩, h, rfl⟩ := h
  obtain ⟨c0, d0, rfl, _, ⟨rfl, hk⟩, c1, d1, rfl, _, ⟨rfl, hi⟩, c2, d2, rfl, _, h2, c3, d3, rfl, hl3, h3, c4, d4, rfl, hl4, h4, h5⟩ := h
  have h5 : d4 = [] := h5
  subst h5
  obtain ⟨A, c, e2, hp, hm⟩ := rec_at h2
  have hc2 : c2 = (recW ⟨rr.1, rr.2.1, rr.2.2.1⟩ (.slice A rr.2.2.1.length c)).toList := by rw [← e2]
  obtain ⟨u3, rfl⟩ : ∃ u, c3 = [u] := List.length_eq_one_iff.1 hl3
  obtain ⟨u4, rfl⟩ : ∃ u, c4 = [u] := List.length_eq_one_iff.1 hl4
  subst hc2
  refine ⟨hr 0 _ rfl, hr 1 _ rfl, ⟨A, c, fun j v hv => ?_, hp, hm⟩, ⟨u3, hr 5 _ rfl, rdSl_item h3⟩, ⟨u4, hr 6 _ rfl, rdSl_item h4⟩, bounds_i64L hk, bounds_i64L hi⟩
  have hj : j < 3 := (List.getElem?_eq_some_iff.1 hv).1
  rw [show o + 2 + j = o + (2 + j) by omega]
  refine hr (2 + j) v ?_
  show ([.int .i64 k] ++ ([.int .i64 i] ++ (_ ++ _)))[2 + j]? = some v
  rw [show 2 + j = j + 1 + 1 by omega]
  show ((recW ⟨rr.1, rr.2.1, rr.2.2.1⟩ (.slice A rr.2.2.1.length c)).toList ++ _)[j]? = some v
  rw [List.getElem?_append_left (by show j < 3; exact hj)]
  exact hv
theorem steps_at8 {w : World} {A : Option Addr} {n c : Nat} {l : List Step8} (h : rdSl 7 rdStep8 w [.slice A n c] l) {k : Nat} {x : Step8} (hx : l[k]? = some x) : ∃ b o, A = some ⟨b, o, none⟩ ∧ b < w.heap.size ∧ StepAt8 w b (o + k * 7) x := by
  obtain ⟨A', c', h1, _, _, _, h5⟩ := h
  injection h1 with h1 _
  injection h1 with h1 _ _
  subst h1
  obtain ⟨b, o, h6, h7, h8⟩ := h5 (by intro e; subst e; simp at hx)
  obtain ⟨ds, _, h9, h10⟩ := h8 k x hx
  exact ⟨b, o, h6, h7, step_cells8 h10 h9⟩
def Fair8 (w : World) (l : List Step8) : Ending → World → Prop := fun e w' => ∃ b, e = .returned (.bool b) ∧ (b = true → l.length ≤ 80 ∧ ∀ x ∈ l, x.r.l.length ≤ 50 ∧ x.body.length ≤ 29 ∧ x.keep.length ≤ 300) ∧ w = w'
set_option maxHeartbeats 800000 in
theorem fair8_any (w : World) (A : Option Addr) (n c : Nat) (l : List Step8) (h : rdSl 7 rdStep8 w [.slice A n c] l) : Calls Try.prog 8 #[.slice A n c] w (Fair8 w l) := by
  have H := Lib.hid h
  obtain ⟨A', c', h1, _, _, hm, _⟩ := h
  injection h1 with h1 _
  injection h1 with h2 h1 h3
  clear h2 h3
  have HN : Hid (l.length = n) := Lib.hid h1.symm
  rw [← h1] at hm
  unfold maxLen at hm
  clear h1
  go_enter Try.func8, Try.ntmps8
  go_wp2_with fail
  go_loopw [3] (fun i wr => ∃ k : Nat, k ≤ n ∧ i = .int .i64 k ∧ (∀ x ∈ l.take k, x.r.l.length ≤ 50 ∧ x.body.length ≤ 29 ∧ x.keep.length ≤ 300) ∧ wr = w) (fun i _ => n - (intOf i).toNat)
  case atStart => exact ⟨0, by omega, rfl, by simp, rfl⟩
  case round =>
    obtain ⟨k, hk, rfl, hall, rfl⟩ := hrel
    have HA := Lib.hid hall
    clear hall
    by_cases hlt : k < n
    · have hkl : k < l.length := by rw [HN.out]; exact hlt
      obtain ⟨b, o, rfl, _, hs⟩ := steps_at8 H.out (List.getElem?_eq_getElem hkl)
      obtain ⟨O, hO⟩ : ∃ O, o + k * 7 = O := ⟨_, rfl⟩
      rw [hO] at hs
      obtain ⟨Ap, cp, hrec, _, hmp⟩ := hs.rec_
      have hpc : wr.cell? ⟨b, O + 4, none⟩ = some (.slice Ap l[k].r.l.length cp) := by have := hrec 2 _ rfl; rwa [show O + 2 + 2 = O + 4 by omega] at this
      obtain ⟨u5, hu5, A5, c5, rfl, _, _, hm5⟩ := hs.body
      obtain ⟨u6, hu6, A6, c6, rfl, _, _, hm6⟩ := hs.keep
      unfold maxLen at hm5 hm6 hmp
      have HT : Hid (l.take (k + 1) = l.take k ++ [l[k]]) := Lib.hid (List.take_succ_eq_append_getElem hkl)
      have hk0 : (0 : Int) ≤ (k : Int) := by omega
      have hk1 : (k : Int) < (n : Int) := by omega
      clear hs hrec
      obtain ⟨m4, hm4⟩ : ∃ m, l[k].r.l.length = m := ⟨_, rfl⟩
      obtain ⟨m5, hm5'⟩ : ∃ m, l[k].body.length = m := ⟨_, rfl⟩
      obtain ⟨m6, hm6'⟩ : ∃ m, l[k].keep.length = m := ⟨_, rfl⟩
      have HK := Lib.hid (And.intro hm4 (And.intro hm5' hm6'))
      rw [hm4] at hpc hmp
      rw [hm5'] at hu5 hm5
      rw [hm6'] at hu6 hm6
      clear hm4 hm5' hm6'
      by_cases b4 : 50 < m4
      · have hd : decide ((50 : Int) < (m4 : Int)) = true := decide_eq_true (by omega)
        go_wp2_with fail
        go_ret
        exact ⟨false, rfl, (fun h => by cases h), rfl⟩
      have hd4 : decide ((50 : Int) < (m4 : Int)) = false := decide_eq_false (by omega)
      by_cases b5 : 29 < m5
      · have hd : decide ((29 : Int) < (m5 : Int)) = true := decide_eq_true (by omega)
        go_wp2_with fail
        go_ret
        exact ⟨false, rfl, (fun h => by cases h), rfl⟩
      have hd5 : decide ((29 : Int) < (m5 : Int)) = false := decide_eq_false (by omega)
      by_cases b6 : 300 < m6
      · have hd : decide ((300 : Int) < (m6 : Int)) = true := decide_eq_true (by omega)
        go_wp2_with fail
        go_ret
        exact ⟨false, rfl, (fun h => by cases h), rfl⟩
      have hd6 : decide ((300 : Int) < (m6 : Int)) = false := decide_eq_false (by omega)
      go_wp2_with fail
      refine ⟨⟨k + 1, by omega, by go_num, ?_, trivial⟩, by simp [intOf]; omega⟩
      rw [HT.out]
      intro x hx
      rcases List.mem_append.1 hx with h | h
      · exact HA.out x h
      · rw [List.mem_singleton.1 h, HK.out.1, HK.out.2.1, HK.out.2.2]; omega
    · obtain rfl : k = n := by omega
      go_wp2_with fail
      go_ret
      refine ⟨_, rfl, fun h => ⟨?_, ?_⟩, rfl⟩
      · have h' := of_decide_eq_true h
        rw [HN.out]; omega
      · have := HA.out
        rwa [← HN.out, List.take_length] at this
end Go.Proofs.Ytcdcongeogmfkaa

/- Law 8's own: a record's copy, for the document. -/
set_option maxRecDepth 4000
namespace Go.Proofs.Ytcdcongeogmfkaa
open Go Go.RowKit
set_option maxRecDepth 20000 in
set_option maxHeartbeats 800000 in
theorem own8_any (e0 s0 : BitVec 32) (A : Option Addr) (c : Nat) (l : List (Int × List (BitVec 8))) (w : World) (hv : PutsAt w (.slice A l.length c) l) (hl : l.length ≤ 1000000) :
    Calls Try.prog 14 #[.agg (recW ⟨e0, s0, l⟩ (.slice A l.length c))] w fun e w' => ∃ v, e = .returned (.agg (recC ⟨e0, s0, l⟩ v 0)) ∧ PutsAt w' v l ∧ Below w.heap.size w w' ∧ (∀ k, v.ownBlock = some k → w.heap.size ≤ k) ∧ ∃ B n2 c2, v = Value.slice B n2 c2 := by
  obtain ⟨n, hn⟩ : ∃ n, l.length = n := ⟨_, rfl⟩
  have HN := Lib.hid hn
  have HL6 := Lib.hid hl
  rw [hn] at hv ⊢
  clear hn hl
  have hz := zeros_recC
  have HS := St.nil w noF
  have HV := Lib.hid hv
  clear hv
  go_enter Try.func14, Try.ntmps14
  go_upto_region 1 with (first | ((with_reducible refine wpList_plain ?_ ?_); exact rfl; intro KK hKK; refine wp_st_box HS 36 (.tmp 0) rfl _ rfl (recW ⟨e0, s0, l⟩ (.slice A n c)) (rfl) (fun g1 W1 HSx => hKK _ _ ?_); clear hKK KK HS; have HS : St w noF [⟨g1, 36, recW ⟨e0, s0, l⟩ (.slice A n c)⟩] W1 := HSx; clear HSx) | ((with_reducible refine wpList_plain ?_ ?_); exact rfl; intro KK hKK; refine wp_st_alloc HS 43 (recC rec0 (.slice none 0 0) 0) rfl (.agg (recC rec0 (.slice none 0 0) 0)) (by kernel_rfl) (rfl) (fun g2 W2 HSx => hKK _ _ ?_); clear hKK KK HS; have HS : St w noF [⟨g1, 36, recW ⟨e0, s0, l⟩ (.slice A n c)⟩, ⟨g2, 43, recC rec0 (.slice none 0 0) 0⟩] W2 := HSx; clear HSx))
  obtain ⟨B0, hB0⟩ : ∃ B, W2.heap.size = B := ⟨_, rfl⟩
  have HB0 : Hid (w.heap.size ≤ B0) := Lib.hid (by rw [← hB0]; exact HS.below.size)
  have HG2 : Hid (g2 < B0) := Lib.hid (by rw [← hB0]; exact (HS.row 1 rfl).lt)
  have hF0 : Wl [fun W => St w noF [⟨g1, 36, recW ⟨e0, s0, l⟩ (.slice A n c)⟩, ⟨g2, 43, recC rec0 (.slice none 0 0) 0⟩] W ∧ PutsAt W (.slice A n c) l ∧ B0 ≤ W.heap.size, fun W => ∃ v, St w noF [⟨g1, 36, recW ⟨e0, s0, l⟩ (.slice A n c)⟩, ⟨g2, 43, recC ⟨e0, s0, l⟩ v 0⟩] W ∧ PutsAt W v l ∧ (∀ k, v.ownBlock = some k → B0 ≤ k) ∧ ∃ B n2 c2, v = Value.slice B n2 c2] 0 W2.drew := ⟨HS.drew, HV.out.below (HS.below.trans ((Below.refl W2.heap.size W2).drew.mono HS.below.size)) (Nat.le_refl _), by rw [← hB0]; exact Nat.le_refl _⟩
  clear HS hB0 hz
  refine wp_region_phs [is (.pointer (some ⟨g1, 0, none⟩)), is (.int .u32 (wd e0)), is (.pointer (some ⟨g1, 1, none⟩)), is (.int .u32 (wd s0)), (fun v W => ∃ g, v = Value.slice (some ⟨g, 0, none⟩) 0 0 ∧ Row W g 70 #[] ∧ B0 ≤ g), is (.pointer (some ⟨g1, 2, none⟩)), is (.slice A n c), (fun v W => PutsAt W v l ∧ (∀ k, v.ownBlock = some k → B0 ≤ k) ∧ ∃ B n2 c2, v = Value.slice B n2 c2), (fun u W => ∃ v, u = Value.agg (recC ⟨e0, s0, l⟩ v 0) ∧ PutsAt W v l ∧ (∀ k, v.ownBlock = some k → B0 ≤ k) ∧ ∃ B n2 c2, v = Value.slice B n2 c2), anyV] [true, true, true, true, false, true, true, false, false, true] [(fun W => St w noF [⟨g1, 36, recW ⟨e0, s0, l⟩ (.slice A n c)⟩, ⟨g2, 43, recC rec0 (.slice none 0 0) 0⟩] W ∧ PutsAt W (.slice A n c) l ∧ B0 ≤ W.heap.size), (fun W => ∃ v, St w noF [⟨g1, 36, recW ⟨e0, s0, l⟩ (.slice A n c)⟩, ⟨g2, 43, recC ⟨e0, s0, l⟩ v 0⟩] W ∧ PutsAt W v l ∧ (∀ k, v.ownBlock = some k → B0 ≤ k) ∧ ∃ B n2 c2, v = Value.slice B n2 c2)] [false, false, false, false, false, false, false, false, false, true] [some 0, some 0, some 0, some 0, some 0, some 0, some 0, some 0, some 0, some 0] [some 3, some 4, some 5, some 6, some 7, some 8, some 9, some 10, some 11, none] 10 1 (fun _ => true) rfl rfl (by kernel_rfl) (by kernel_rfl) (by kernel_rfl) (by kernel_rfl) ?_ ?_ ?_ ?_ ?_ ?_
  · repeat first | exact wok_nil | refine wok_cons (by first | exact fun _ _ h k => ⟨h.1.same k, h.2.1.below k (Nat.le_refl _), Nat.le_trans h.2.2 k.size⟩ | exact fun _ _ h k => ⟨h.choose, h.choose_spec.1.same k, h.choose_spec.2.1.below k (Nat.le_refl _), h.choose_spec.2.2⟩) ?_
  · repeat first | exact vok_nil | refine vok_rig (by first | exact fun _ _ _ h => h) ?_ | refine vok_soft (by first | exact fun _ _ _ h _ => h | exact fun _ _ _ h k => ⟨h.1.below k (Nat.le_refl _), h.2⟩ | exact fun _ _ _ h k => ⟨h.choose, h.choose_spec.1, h.choose_spec.2.1.below k (Nat.le_refl _), h.choose_spec.2.2⟩ | exact fun _ _ _ h k => ⟨h.choose, h.choose_spec.1, h.choose_spec.2.1.call k, h.choose_spec.2.2⟩) ?_
  · exact hF0
  · repeat first | exact all_end (by decide) | refine all_cons (by first | exact rfl | exact ⟨rfl, fun _ _ h => Or.inl h⟩ | exact ⟨rfl, fun _ _ h => Or.inr ⟨h, rfl⟩⟩) ?_
  · refine allp_mild 0 rfl rfl rfl (fun a x W hout hin hP => ?_) ?_
    · have e1 : a.tmps[1]? = some (.pointer (some ⟨g1, 0, none⟩)) := (hout 1 (by kernel_rfl)).trans rfl
      clear hin hout
      intro K Q hK
      go_simp
      exact hK _ _ ⟨Same.refl _, rfl⟩
    refine allp_mild 0 rfl rfl rfl (fun a x W hout hin hP => ?_) ?_
    · have e3 := hin.is 0 3 (by kernel_rfl) (by decide) (by kernel_rfl) (by kernel_rfl) _ rfl
      have hc : W.cell? ⟨g1, 0, none⟩ = some (.int .u32 (wd e0)) := (hP.1.row 0 rfl).get rfl
      clear hP
      clear hin hout
      intro K0 Q hK
      go_simp
      exact hK _ _ ⟨Same.refl _, rfl⟩
    refine allp_mild 0 rfl rfl rfl (fun a x W hout hin hP => ?_) ?_
    · have e1 : a.tmps[1]? = some (.pointer (some ⟨g1, 0, none⟩)) := (hout 1 (by kernel_rfl)).trans rfl
      clear hin hout
      intro K Q hK
      go_simp
      exact hK _ _ ⟨Same.refl _, rfl⟩
    refine allp_mild 0 rfl rfl rfl (fun a x W hout hin hP => ?_) ?_
    · have e5 := hin.is 2 5 (by kernel_rfl) (by decide) (by kernel_rfl) (by kernel_rfl) _ rfl
      have hc : W.cell? ⟨g1, 1, none⟩ = some (.int .u32 (wd s0)) := (hP.1.row 0 rfl).get rfl
      clear hP
      clear hin hout
      intro K0 Q hK
      go_simp
      exact hK _ _ ⟨Same.refl _, rfl⟩
    refine allp_mild 0 rfl rfl rfl (fun a x W hout hin hP => ?_) ?_
    · have hs := hP.2.2
      clear hP
      clear hin hout
      intro K0 Q hK
      go_simp
      exact hK _ _ ⟨Same.alloc _ _, _, rfl, Row.fresh _ _ _, hs⟩
    refine allp_mild 0 rfl rfl rfl (fun a x W hout hin hP => ?_) ?_
    · have e1 : a.tmps[1]? = some (.pointer (some ⟨g1, 0, none⟩)) := (hout 1 (by kernel_rfl)).trans rfl
      clear hin hout
      intro K Q hK
      go_simp
      exact hK _ _ ⟨Same.refl _, rfl⟩
    refine allp_mild 0 rfl rfl rfl (fun a x W hout hin hP => ?_) ?_
    · have e8 := hin.is 5 8 (by kernel_rfl) (by decide) (by kernel_rfl) (by kernel_rfl) _ rfl
      have hc : W.cell? ⟨g1, 2, none⟩ = some (.slice A n c) := (hP.1.row 0 rfl).get rfl
      clear hP
      clear hin hout
      intro K0 Q hK
      go_simp
      exact hK _ _ ⟨Same.refl _, rfl⟩
    refine allp_mild 0 rfl rfl rfl (fun a x W hout hin hP => ?_) ?_
    · obtain ⟨v7, e7, hv7⟩ := hin.get 4 7 (by kernel_rfl) (by decide) (by kernel_rfl) (.inr ⟨rfl, by kernel_rfl⟩)
      have e9 := hin.is 6 9 (by kernel_rfl) (by decide) (by kernel_rfl) (by kernel_rfl) _ rfl
      obtain ⟨g, rfl, hg, hgl⟩ := hv7
      have h0 := hP.2.1
      have hs := hP.2.2
      clear hin hout hP
      intro K0 Q hK
      rw [← HN.out] at h0 e9
      exact wp_append_puts_own (.tmp 7) (.tmp 9) rfl g (eval_of_get e7) hg A c l (eval_of_get e9) h0 HL6.out (fun v6 w6 h6 k6 f6 o6 => hK v6 w6 ⟨k6, h6, fun k hk => by rcases o6 k hk with h | h <;> omega, f6⟩)
    refine allp_mild 0 rfl rfl rfl (fun a x W hout hin hP => ?_) ?_
    · have e4 := hin.is 1 4 (by kernel_rfl) (by decide) (by kernel_rfl) (by kernel_rfl) _ rfl
      have e6 := hin.is 3 6 (by kernel_rfl) (by decide) (by kernel_rfl) (by kernel_rfl) _ rfl
      obtain ⟨v10, e10, hv10⟩ := hin.get 7 10 (by kernel_rfl) (by decide) (by kernel_rfl) (.inr ⟨rfl, by kernel_rfl⟩)
      clear hP
      have hv := hv10
      obtain ⟨_, _, B9, n9, c9, rfl⟩ := hv10
      clear hin hout
      intro K0 Q hK
      go_simp
      exact hK _ _ ⟨Same.refl _, _, rfl, hv⟩
    refine allp_wild 0 rfl rfl rfl (fun a x W hout hin hP => ?_) ?_
    · have e2 : a.tmps[2]? = some (.pointer (some ⟨g2, 0, none⟩)) := (hout 2 (by kernel_rfl)).trans rfl
      obtain ⟨v11, e11, hv11⟩ := hin.get 8 11 (by kernel_rfl) (by decide) (by kernel_rfl) (.inr ⟨rfl, by kernel_rfl⟩)
      obtain ⟨v, rfl, hp, hn, B9, n9, c9, rfl⟩ := hv11
      have hr2 := hP.1.row 1 rfl
      have hst := hP.1.upd 1 rfl (hr2.setRow (recC ⟨e0, s0, l⟩ (.slice B9 n9 c9) 0)) (grown_setRow W g2 _)
      have hpp := hp.chg ((Chg.refl (fun k => some g2 = some k) W).grown (grown_setRow W g2 (recC ⟨e0, s0, l⟩ (.slice B9 n9 c9) 0)) (fun k hk => .inl hk)) (fun k hk e => by cases e; have := hn g2 hk; have := HG2.out; omega)
      clear hin hout hP
      intro K0 Q hK
      refine wp_store_row 43 (.tmp 2) (.tmp 11) rfl g2 (recC ⟨e0, s0, l⟩ (.slice B9 n9 c9) 0) (eval_of_get e2) (eval_of_get e11) 43 (recC rec0 (.slice none 0 0) 0) hr2 size_wrec rfl (one_recC _ _ _) ?_
      exact hK undef _ ⟨⟨_, hst, hpp, hn, _, _, _, rfl⟩, trivial⟩
    exact all_end (by decide)
  · intro x V hP hV
    obtain ⟨v, HS, hp, hn, hf⟩ := hP
    clear hV hF0
    simp only [putL, Act.put, List.setIfInBounds_toArray, List.set_cons_succ, List.set_cons_zero]
    refine wpAnyH_done (by kernel_rfl) ?_ _
    go_wp2_with fail
    exact bodyPost_ret (v := .agg (recC ⟨e0, s0, l⟩ v 0)) (results_cell_row Try.results14 _ _ g2 43 (recC ⟨e0, s0, l⟩ v 0) (0, 0) _ rfl (HS.row 1 rfl) Try.underlying43 rfl size_wrec) rfl ⟨v, rfl, hp, HS.below, fun k hk => Nat.le_trans HB0.out (hn k hk), hf⟩
end Go.Proofs.Ytcdcongeogmfkaa

/- The program's wal: which puts may be. -/
set_option maxRecDepth 4000
namespace Go.Proofs.Ytcdcongeogmfkaa
open Go Go.RowKit
theorem st_cut {w0 w : World} {F : Nat → Prop} {R S : List Blk} (h : St w0 F (R ++ S) w) : St w0 F R w := by
  have at_ : ∀ (k : Nat) (r : Blk), R[k]? = some r → (R ++ S)[k]? = some r := fun k r hk => by
    rw [List.getElem?_append_left (List.getElem?_eq_some_iff.1 hk).1]; exact hk
  exact ⟨h.chg, fun k r hk => h.rows k r (at_ k r hk), fun j k r s hne hj hk => h.apart j k r s hne (at_ j r hj) (at_ k s hk), fun k r hk => h.own k r (at_ k r hk)⟩
/- which blocks the first k have -/
def took (L : List Int) (k : Nat) : Array Value := ((List.range 12).map fun (i : Nat) => Value.bool (decide ((i : Int) ∈ L.take k))).toArray
theorem size_took (L : List Int) (k : Nat) : (took L k).size = 12 := by simp [took]
theorem took_at (L : List Int) (k d : Nat) (hd : d < 12) : (took L k)[d]? = some (.bool (decide ((d : Int) ∈ L.take k))) := by simp [took, hd]
theorem took_set (L : List Int) (k d : Nat) (hk : k < L.length) (hd : L.getD k 0 = (d : Int)) : (took L k).setIfInBounds d (.bool true) = took L (k + 1) := by
  apply Array.ext'
  unfold took
  simp only [List.setIfInBounds_toArray]
  apply List.ext_getElem (by simp)
  intro i h1 h2
  have hg : L[k] = (d : Int) := by rw [← hd, List.getD_eq_getElem?_getD, List.getElem?_eq_getElem hk]; rfl
  rw [List.getElem_set, List.getElem_map, List.getElem_range, List.getElem_map, List.getElem_range, List.take_succ_eq_append_getElem hk, hg]
  by_cases e : d = i
  · subst e; simp
  · rw [if_neg e]
    have : ¬ (i : Int) = (d : Int) := by omega
    simp [this]
theorem ok_took (L : List Int) (k d : Nat) (hk : k < L.length) (hd : L.getD k 0 = (d : Int)) (h12 : d < 12) : okAt L k ↔ decide ((d : Int) ∈ L.take k) = false := by
  unfold okAt
  rw [hd, decide_eq_false_iff_not, List.mem_take_iff_getElem]
  constructor
  · rintro ⟨_, _, h⟩ ⟨i, hi, e⟩
    exact h i (by omega) (by rw [List.getD_eq_getElem?_getD, List.getElem?_eq_getElem (by omega)]; exact e)
  · intro h
    refine ⟨by omega, by omega, fun i hi e => h ⟨i, by omega, ?_⟩⟩
    rw [List.getD_eq_getElem?_getD, List.getElem?_eq_getElem (by omega)] at e; exact e
theorem put_at_mem {w : World} {A : Option Addr} {n c : Nat} {l : List (Int × List (BitVec 8))} (h : PutsAt w (.slice A n c) l) (_ : l.length = n) {k : Nat} {D : Int} {q : List (BitVec 8)} (hx : l[k]? = some (D, q)) :
    ∃ b o, A = some ⟨b, o, none⟩ ∧ b < w.heap.size ∧ w.rangeAt b (o + k * 33) (pcell (D, q)) ∧ q.length = 32 ∧ -9223372036854775808 ≤ D ∧ D < 9223372036854775808 := by
  obtain ⟨A', c', e1, _, hb, h4⟩ := h
  injection e1 with e1 _ _
  subst e1
  obtain ⟨b, o, e2, h5, h6⟩ := h4 (by intro e; rw [e] at hx; simp at hx)
  have := hb _ (List.mem_of_getElem? hx)
  exact ⟨b, o, e2, h5, h6 k _ hx, this.1, this.2.1, this.2.2⟩
theorem one_pc (x : Int × List (BitVec 8)) : (pcell x).toArray.all (·.oneCell') = true := by
  rw [Array.all_eq_true_iff_forall_mem]; intro v hv; exact one_pcell0 v (by simpa using hv)
theorem size_pc {D : Int} {q : List (BitVec 8)} (h : q.length = 32) : (pcell (D, q)).toArray.size = 33 := by rw [List.size_toArray]; exact len_pcell h
theorem info_put33 : (Try.prog.info? 70).map (·.size) = some 33 := by kernel_rfl
theorem size_zput : zput0.size = 33 := by rfl
set_option maxHeartbeats 800000 in
theorem walgood_any (l : List (Int × List (BitVec 8))) (v : Value) (w : World) (hv : PutsAt w v l) (hl : l.length ≤ maxLen) :
    Calls Try.prog 24 #[v] w fun e w' => e = .returned (.bool (goodB (l.map (·.1)))) ∧ Below w.heap.size w w' := by
  obtain ⟨A, c, rfl⟩ : ∃ A c, v = .slice A l.length c := by obtain ⟨A, c, h, _⟩ := hv; exact ⟨A, c, h⟩
  obtain ⟨n, hn⟩ : ∃ n, l.length = n := ⟨_, rfl⟩
  obtain ⟨L, hL⟩ : ∃ L, l.map (·.1) = L := ⟨_, rfl⟩
  have HLL := Lib.hid hL
  have HLn : Hid (L.length = n) := Lib.hid (by rw [← hL, List.length_map, hn])
  have HN := Lib.hid hn
  have HG : Hid (goodB L = (decide (∀ k < n, okAt L k) && (decide (1 ≤ n) && decide (n ≤ 5)))) := Lib.hid (by unfold goodB; rw [HLn.out])
  obtain ⟨G, hG⟩ : ∃ G, goodB L = G := ⟨_, rfl⟩
  rw [hG] at HG
  rw [hL, hG]
  rw [hn] at hv hl ⊢
  have HV := Lib.hid hv
  unfold maxLen at hl
  clear hL hG hn hv
  by_cases h1 : 1 ≤ n
  case neg =>
    have hG : G = false := by rw [HG.out, decide_eq_false h1, Bool.false_and, Bool.and_false]
    have hq : decide ((n : Int) < 1) = true := decide_eq_true (by omega)
    clear HG
    go_enter Try.func24, Try.ntmps24
    go_wp2_with fail
    go_ret
    first | exact ⟨rfl, Below.refl _ _⟩ | (rw [hG]; exact ⟨rfl, Below.refl _ _⟩)
  by_cases h5 : n ≤ 5
  case neg =>
    have hG : G = false := by rw [HG.out, decide_eq_false h5, Bool.and_false, Bool.and_false]
    have hq : decide ((n : Int) < 1) = false := decide_eq_false (by omega)
    have hq5 : decide ((5 : Int) < (n : Int)) = true := decide_eq_true (by omega)
    clear HG
    go_enter Try.func24, Try.ntmps24
    go_wp2_with fail
    go_ret
    first | exact ⟨rfl, Below.refl _ _⟩ | (rw [hG]; exact ⟨rfl, Below.refl _ _⟩)
  have HNO : Hid (∀ k, k < n → ¬ okAt L k → G = false) := Lib.hid fun k hk h => by rw [HG.out, decide_eq_false (fun h' => h (h' k hk))]; rfl
  have HYES : Hid ((∀ k < n, okAt L k) → G = true) := Lib.hid fun h => by rw [HG.out, decide_eq_true h, decide_eq_true h1, decide_eq_true h5]; rfl
  have hq : decide ((n : Int) < 1) = false := decide_eq_false (by omega)
  have hq5 : decide ((5 : Int) < (n : Int)) = false := decide_eq_false (by omega)
  clear HG
  have HS := St.nil w noF
  go_enter Try.func24, Try.ntmps24
  go_upto_region 5 with (first | ((with_reducible refine wpList_plain ?_ ?_); exact rfl; intro KK hKK; refine wp_st_alloc HS 78 (took L 0) rfl (.agg (took L 0)) (by kernel_rfl) (rfl) (fun g3 W1 HSx => hKK _ _ ?_); clear hKK KK HS; have HS : St w noF [⟨g3, 78, took L 0⟩] W1 := HSx; clear HSx))
  clear hq hq5
  go_loopw [16] (fun i wr => ∃ k : Nat, k ≤ n ∧ i = .int .i64 k ∧ (∀ j < k, okAt L j) ∧ St w noF [⟨g3, 78, took L k⟩] wr) (fun i _ => n - (intOf i).toNat)
  case atStart => exact ⟨0, by omega, rfl, fun j hj => by omega, HS⟩
  case round =>
    clear HS
    obtain ⟨k, hk, rfl, hok, HS⟩ := hrel
    have HOK := Lib.hid hok
    clear hok
    by_cases hlt : k < n
    · obtain ⟨⟨D, q⟩, hx⟩ : ∃ x, l[k]? = some x := ⟨_, List.getElem?_eq_getElem (by rw [HN.out]; exact hlt)⟩
      have HX := Lib.hid hx
      have HDk : Hid (L.getD k 0 = D) := Lib.hid (by rw [← HLL.out, List.getD_eq_getElem?_getD, List.getElem?_map, hx]; rfl)
      obtain ⟨b, o, rfl, hbw, hr, hq, hlo, hhi⟩ := put_at_mem (HV.out.below HS.below (Nat.le_refl _)) HN.out hx
      have HRG := Lib.hid hr
      have HQ := Lib.hid hq
      have hk0 : (0 : Int) ≤ (k : Int) := by omega
      have hk1 : (k : Int) < (n : Int) := by omega
      clear hx hr hq
      go_upto_region 7 with (first | (refine wpList_load_mid rfl 70 _ rfl b (o + k * 33) rfl (pcell (D, q)) _ HRG.out Try.underlying70 rfl (by rw [len_pcell HQ.out]; exact info_put33) ?_) | ((with_reducible refine wpList_plain ?_ ?_); exact rfl; intro KK hKK; refine wp_st_alloc HS 70 (zput0) rfl (.agg (zput0)) (by kernel_rfl) (rfl) (fun g5 W4 HSx => hKK _ _ ?_); clear hKK KK HS; have HS : St w noF [⟨g3, 78, took L k⟩, ⟨g5, 70, zput0⟩] W4 := HSx; clear HSx) | ((with_reducible refine wpList_plain ?_ ?_); exact rfl; intro KK hKK; refine wp_st_store HS 1 0 70 (.tmp 5) (.tmp 19) rfl rfl rfl (.agg (pcell (D, q)).toArray) rfl (by exact (size_pc HQ.out).symm ▸ info_put33) (by rw [Nat.zero_add]; exact Nat.le_of_eq ((size_pc HQ.out).trans size_zput.symm)) (one_pc (D, q)) ((pcell (D, q)).toArray) (spl_agg _ _ _ rfl (size_zput.trans (size_pc HQ.out).symm)) (fun W5 HSx => hKK _ _ ?_); clear hKK KK HS; have HS : St w noF [⟨g3, 78, took L k⟩, ⟨g5, 70, (pcell (D, q)).toArray⟩] W5 := HSx; clear HSx))
      have c5 : W5.cell? ⟨g5, 0, none⟩ = some (.int .i64 D) := (HS.row 1 rfl).get rfl
      clear HRG
      by_cases h0 : 0 ≤ D
      case neg =>
        have hd3 : decide (D < 0) = true := decide_eq_true (by omega)
        have hG : G = false := HNO.out k hlt (fun h => by unfold okAt at h; rw [HDk.out] at h; exact h0 h.1)
        go_wp2_with fail
        go_ret
        first | exact ⟨rfl, HS.below⟩ | (rw [hG]; exact ⟨rfl, HS.below⟩)
      by_cases h12 : D < 12
      case neg =>
        have hd3 : decide (D < 0) = false := decide_eq_false (by omega)
        have hd4 : decide (12 ≤ D) = true := decide_eq_true (by omega)
        have hG : G = false := HNO.out k hlt (fun h => by unfold okAt at h; rw [HDk.out] at h; exact h12 h.2.1)
        go_wp2_with fail
        go_ret
        first | exact ⟨rfl, HS.below⟩ | (rw [hG]; exact ⟨rfl, HS.below⟩)
      obtain ⟨d, rfl⟩ := Int.eq_ofNat_of_zero_le h0
      have hd3 : decide ((d : Int) < 0) = false := decide_eq_false (by omega)
      have hd4 : decide ((12 : Int) ≤ (d : Int)) = false := decide_eq_false (by omega)
      have HD12 : Hid (d < 12) := Lib.hid (by omega)
      have HOT := Lib.hid (ok_took L k d (by rw [HLn.out]; exact hlt) HDk.out HD12.out)
      have c3 : W5.cell? ⟨g3, d, none⟩ = some (.bool (decide ((d : Int) ∈ L.take k))) := (HS.row 0 rfl).get (took_at L k d HD12.out)
      cases ht : decide ((d : Int) ∈ L.take k) with
      | true =>
        rw [ht] at c3
        have hG : G = false := HNO.out k hlt (fun h => by have := HOT.out.1 h; rw [ht] at this; cases this)
        clear ht
        go_wp2_with fail
        go_ret
        first | exact ⟨rfl, HS.below⟩ | (rw [hG]; exact ⟨rfl, HS.below⟩)
      | false =>
        rw [ht] at c3
        have HOKk : Hid (okAt L k) := Lib.hid (HOT.out.2 ht)
        have HTS := Lib.hid (took_set L k d (by rw [HLn.out]; exact hlt) HDk.out)
        clear ht
        go_wp2_with (first | ((with_reducible refine wpList_plain ?_ ?_); exact rfl; intro KK hKK; refine wp_st_put HS 0 d 4 (.tmp 36) (.const (.bool true)) rfl rfl rfl (.bool true) rfl (by kernel_rfl) rfl rfl (by rw [size_took]; exact HD12.out) (took L (k + 1)) (HTS.out) (fun W6 HSx => hKK _ _ ?_); clear hKK KK HS; have HS : St w noF [⟨g3, 78, took L (k + 1)⟩, ⟨g5, 70, (pcell ((d : Int), q)).toArray⟩] W6 := HSx; clear HSx))
        refine ⟨⟨k + 1, by omega, by go_num, fun j hj => ?_, st_cut (show St w noF ([⟨g3, 78, took L (k + 1)⟩] ++ [⟨g5, 70, (pcell ((d : Int), q)).toArray⟩]) W6 from HS)⟩, by simp [intOf] <;> omega⟩
        by_cases e : j = k
        · rw [e]; exact HOKk.out
        · exact HOK.out j (by omega)
    · obtain rfl : k = n := by omega
      have hG : G = true := HYES.out HOK.out
      go_wp2_with fail
      go_ret
      first | exact ⟨rfl, HS.below⟩ | (rw [hG]; exact ⟨rfl, HS.below⟩)
end Go.Proofs.Ytcdcongeogmfkaa

/- What a Put makes of a disk, wherever it is cut, and what Get tells behind it. No program is named here. -/
set_option maxRecDepth 4000
namespace Go.Proofs.Ytcdcongeogmfkaa
def imgsL (a : Nat) : List (List (BitVec 8)) → List (Nat × List (BitVec 8))
  | [] => []
  | b :: l => (a, b) :: imgsL (a + 1) l
def left (f : Int) (k : Nat) : Int := if f < 0 then f else f - k
theorem wRes_go {M : DiskM} {i : Nat} {b : List (BitVec 8)} (hi : i < M.s.length) (hd : M.down = false) (hf : M.f ≠ 0) : M.wRes (i : Int) b = (0, ⟨M.s, M.l ++ [(i, b)], left M.f 1, false⟩) := by
  have h1 : M.has (i : Int) = true := by unfold DiskM.has; simp; omega
  have h2 : M.stuck = false := by unfold DiskM.stuck; rw [hd]; simpa using hf
  unfold DiskM.wRes
  rw [h1, h2, if_pos rfl, if_neg (by decide)]
  obtain ⟨s, l, f, d⟩ := M
  simp only at hd hf
  subst hd
  show ((0 : Int), (⟨s, l ++ [((i : Int).toNat, b)], (if 0 < f then f - 1 else f), false⟩ : DiskM)) = (0, ⟨s, l ++ [(i, b)], left f 1, false⟩)
  rw [Int.toNat_natCast, show left f 1 = (if 0 < f then f - 1 else f) from by unfold left; split <;> split <;> omega]
theorem wRes_stop {M : DiskM} {i : Nat} {b : List (BitVec 8)} (hi : i < M.s.length) (hf : M.f = 0) : M.wRes (i : Int) b = (20, ⟨M.s, M.l, M.f, true⟩) := by
  have h1 : M.has (i : Int) = true := by unfold DiskM.has; simp; omega
  have h2 : M.stuck = true := by unfold DiskM.stuck; rw [hf]; simp
  unfold DiskM.wRes
  rw [h1, h2]; rfl
theorem fRes_go {M : DiskM} (hd : M.down = false) (hf : M.f ≠ 0) : M.fRes = (0, ⟨DiskM.put M.s M.l, [], left M.f 1, false⟩) := by
  have h2 : M.stuck = false := by unfold DiskM.stuck; rw [hd]; simpa using hf
  unfold DiskM.fRes
  rw [h2, if_neg (by decide)]
  obtain ⟨s, l, f, d⟩ := M
  simp only at hd hf
  subst hd
  show ((0 : Int), (⟨DiskM.put s l, [], (if 0 < f then f - 1 else f), false⟩ : DiskM)) = (0, ⟨DiskM.put s l, [], left f 1, false⟩)
  rw [show left f 1 = (if 0 < f then f - 1 else f) from by unfold left; split <;> split <;> omega]
theorem fRes_stop {M : DiskM} (hf : M.f = 0) : M.fRes = (20, ⟨M.s, M.l, M.f, true⟩) := by
  have h2 : M.stuck = true := by unfold DiskM.stuck; rw [hf]; simp
  unfold DiskM.fRes
  rw [h2]; rfl
end Go.Proofs.Ytcdcongeogmfkaa

/- A header's bytes told again; what Get tells of what Put wrote; what a crash leaves. No program is named here. -/
set_option maxRecDepth 4000
namespace Go.Proofs.Ytcdcongeogmfkaa
theorem getD_app_right (a b : List (BitVec 8)) (n i : Nat) (h : a.length = n) : (a ++ b).getD (n + i) 0#8 = b.getD i 0#8 := by
  rw [List.getD_eq_getElem?_getD, List.getElem?_append_right (by omega), h, Nat.add_sub_cancel_left, List.getD_eq_getElem?_getD]
theorem getD_app_left (a b : List (BitVec 8)) (i : Nat) (h : i < a.length) : (a ++ b).getD i 0#8 = a.getD i 0#8 := by
  rw [List.getD_eq_getElem?_getD, List.getElem?_append_left h, List.getD_eq_getElem?_getD]
theorem head_body {e s : BitVec 32} {l : List Int} (h : l.length ≤ 5) : bodyOf (headB e s l) = headOf e s l ++ zer (20 - l.length) := by
  have hl := length_headOf e s l
  show ((headOf e s l ++ List.replicate (29 - (headOf e s l).length) 0#8) ++ crcTail _).take 29 = _
  rw [hl, show 29 - (9 + l.length) = 20 - l.length by omega]
  exact List.take_left' (by rw [List.length_append, hl, List.length_replicate]; omega)
theorem head8 (e s : BitVec 32) : (le e 4 ++ le s 4).length = 8 := by rw [List.length_append, length_le, length_le]
theorem head9 (e s : BitVec 32) (n : Int) : (le e 4 ++ le s 4 ++ [byteOf n]).length = 9 := by rw [List.length_append, head8]; rfl
theorem byteOf_nat (i : Int) (h0 : 0 ≤ i) (h1 : i < 256) : ((byteOf i).toNat : Int) = i := by
  unfold byteOf
  rw [BitVec.toNat_ofInt]
  omega
theorem head_is {e s : BitVec 32} {l : List Int} (hg : goodB l = true) : isHead (headB e s l) = true ∧ cnt (headB e s l) = l.length ∧ atsOf (headB e s l) = l ∧ num ((bodyOf (headB e s l)).take 4) = e ∧ num (((bodyOf (headB e s l)).drop 4).take 4) = s := by
  have hg' := hg
  unfold goodB at hg'
  simp only [Bool.and_eq_true, decide_eq_true_eq] at hg'
  obtain ⟨hok, h1, h5⟩ := hg'
  have hb := head_body (e := e) (s := s) h5
  have hx : headOf e s l = (le e 4 ++ le s 4 ++ [byteOf (l.length : Int)]) ++ l.map byteOf := rfl
  have hcnt : cnt (headB e s l) = l.length := by
    have e8 := getD_app_right (le e 4 ++ le s 4) [byteOf (l.length : Int)] 8 0 (head8 e s)
    rw [Nat.add_zero] at e8
    unfold cnt
    rw [hb, getD_app_left _ _ _ (by rw [length_headOf]; omega), hx, getD_app_left _ _ _ (by rw [head9]; decide), e8]
    show (byteOf (l.length : Int)).toNat = l.length
    have := byteOf_nat (l.length : Int) (by omega) (by omega)
    omega
  have hat : ∀ k, k < l.length → (bodyOf (headB e s l)).getD (9 + k) 0#8 = byteOf (l.getD k 0) := fun k hk => by
    rw [hb, getD_app_left _ _ _ (by rw [length_headOf]; omega), hx, getD_app_right _ _ 9 k (head9 e s _), List.getD_eq_getElem?_getD, List.getElem?_map, List.getElem?_eq_getElem hk, List.getD_eq_getElem?_getD, List.getElem?_eq_getElem hk]; rfl
  have hats : atsOf (headB e s l) = l := by
    unfold atsOf
    rw [hcnt]
    apply List.ext_getElem (by simp)
    intro k h2 h3
    rw [List.getElem_map, List.getElem_range, hat k h3]
    have := hok k h3
    unfold okAt at this
    rw [byteOf_nat _ this.1 (by omega), List.getD_eq_getElem?_getD, List.getElem?_eq_getElem h3]; rfl
  have hz : ∀ i, i < 20 - l.length → (bodyOf (headB e s l)).getD (9 + l.length + i) 0#8 = 0#8 := fun i hi => by
    rw [hb, show 9 + l.length + i = (9 + l.length) + i from rfl, getD_app_right _ _ (9 + l.length) i (length_headOf e s l), List.getD_eq_getElem?_getD]
    unfold zer
    rw [List.getElem?_replicate, if_pos hi]; rfl
  have ht : (bodyOf (headB e s l)).take 4 = le e 4 := by
    rw [hb, hx]
    simp only [List.append_assoc]
    exact List.take_left' (length_le e 4)
  have hd : ((bodyOf (headB e s l)).drop 4).take 4 = le s 4 := by
    rw [hb, hx]
    simp only [List.append_assoc]
    rw [List.drop_left' (length_le e 4)]
    exact List.take_left' (length_le s 4)
  refine ⟨?_, hcnt, hats, by rw [ht, num_le4], by rw [hd, num_le4]⟩
  have hdec : decOk (headB e s l) = true := decOk_sealedB (by decide) (by rw [length_headOf]; omega)
  have hmk : markOf (headB e s l) = 0x57#8 := rfl
  unfold isHead
  rw [hdec, hmk, hcnt, hats, hg, decide_eq_true hz, decide_eq_true h5]; rfl
end Go.Proofs.Ytcdcongeogmfkaa

/- When a sector's bytes are a header's: the program's way to ask. No program is named here. -/
set_option maxRecDepth 4000
namespace Go.Proofs.Ytcdcongeogmfkaa
theorem getD_take_drop (q : List (BitVec 8)) (o n k : Nat) (h : k < n) : ((q.drop o).take n).getD k 0#8 = q.getD (o + k) 0#8 := by
  rw [List.getD_eq_getElem?_getD, List.getElem?_take_of_lt h, List.getElem?_drop, List.getD_eq_getElem?_getD]
theorem head_eq {b : List (BitVec 8)} (hb : b.length = 32) (hd : decOk b = true) (hc : cnt b ≤ 5) :
    (goodB (atsOf b) && decide (headB (lv 0 (bodyOf b)) (lv 4 (bodyOf b)) (atsOf b) = b)) = isHead b := by
  cases hg : goodB (atsOf b) with
  | false => unfold isHead; rw [hg, Bool.and_false, Bool.and_false]; rfl
  | true =>
    rw [Bool.true_and]
    have hL : (bodyOf b).length = 29 := length_bodyOf hb
    obtain ⟨q, hq⟩ : ∃ q, bodyOf b = q := ⟨_, rfl⟩
    have hal : (atsOf b).length = cnt b := by unfold atsOf; rw [List.length_map, List.length_range]
    by_cases h : headB (lv 0 (bodyOf b)) (lv 4 (bodyOf b)) (atsOf b) = b
    · rw [decide_eq_true h, ← h]; exact (head_is (e := lv 0 (bodyOf b)) (s := lv 4 (bodyOf b)) hg).1.symm
    · rw [decide_eq_false h]
      cases hi : isHead b with
      | false => rfl
      | true =>
        exfalso
        apply h
        unfold isHead at hi
        simp only [Bool.and_eq_true, decide_eq_true_eq] at hi
        obtain ⟨⟨_, hm, _⟩, hz, _⟩ := hi
        have hk := hd
        unfold decOk at hk
        rw [Bool.and_eq_true] at hk
        have ht := of_decide_eq_true hk.2
        unfold headB
        conv => rhs; rw [← ht, hm]
        rw [sealedB_inj (by rw [length_headOf, hal]; omega) (by rw [hL]; decide), pad30_eq (by rw [length_headOf, hal]; omega) (by rw [hL]; decide)]
        intro i hi29
        have hx : headOf (lv 0 (bodyOf b)) (lv 4 (bodyOf b)) (atsOf b) = (le (lv 0 (bodyOf b)) 4 ++ le (lv 4 (bodyOf b)) 4 ++ [byteOf ((atsOf b).length : Int)]) ++ (atsOf b).map byteOf := rfl
        rw [hq] at hL hx hz ⊢
        by_cases h4 : i < 4
        · rw [hx, getD_app_left _ _ _ (by rw [head9]; omega), getD_app_left _ _ _ (by rw [head8]; omega), getD_app_left _ _ _ (by rw [length_le]; omega), le_lv q 0 (by omega), getD_take_drop q 0 4 i h4, Nat.zero_add]
        · by_cases h8 : i < 8
          · obtain ⟨k, rfl⟩ : ∃ k, i = 4 + k := ⟨i - 4, by omega⟩
            rw [hx, getD_app_left _ _ _ (by rw [head9]; omega), getD_app_left _ _ _ (by rw [head8]; omega), getD_app_right _ _ 4 k (length_le _ 4), le_lv q 4 (by omega), getD_take_drop q 4 4 k (by omega)]
          · by_cases h9 : i = 8
            · subst h9
              have e8 := getD_app_right (le (lv 0 q) 4 ++ le (lv 4 q) 4) [byteOf ((atsOf b).length : Int)] 8 0 (head8 _ _)
              rw [Nat.add_zero] at e8
              rw [hx, getD_app_left _ _ _ (by rw [head9]; decide), e8, hal]
              show byteOf (cnt b : Int) = _
              apply BitVec.eq_of_toNat_eq
              have h1 := byteOf_nat (cnt b : Int) (by omega) (by omega)
              have h2 : cnt b = (q.getD 8 0#8).toNat := by unfold cnt; rw [hq]
              omega
            · obtain ⟨k, rfl⟩ : ∃ k, i = 9 + k := ⟨i - 9, by omega⟩
              rw [hx, getD_app_right _ _ 9 k (head9 _ _ _)]
              by_cases hkc : k < cnt b
              · rw [List.getD_eq_getElem?_getD, List.getElem?_map, List.getElem?_eq_getElem (by rw [hal]; exact hkc)]
                show byteOf (atsOf b)[k] = _
                have e : (atsOf b)[k]'(by rw [hal]; exact hkc) = ((q.getD (9 + k) 0#8).toNat : Int) := by
                  unfold atsOf
                  rw [List.getElem_map, List.getElem_range, hq]
                rw [e]
                apply BitVec.eq_of_toNat_eq
                have := byteOf_nat ((q.getD (9 + k) 0#8).toNat : Int) (by omega) (by have := (q.getD (9 + k) 0#8).isLt; omega)
                omega
              · rw [List.getD_eq_getElem?_getD, List.getElem?_eq_none (by rw [List.length_map, hal]; omega)]
                obtain ⟨j, rfl⟩ : ∃ j, k = cnt b + j := ⟨k - cnt b, by omega⟩
                have := hz j (by omega)
                rw [show 9 + (cnt b + j) = 9 + cnt b + j by omega, this]; rfl
end Go.Proofs.Ytcdcongeogmfkaa

/- The program's wal: which puts may be, whether there is a log, where an image stands. -/
set_option maxRecDepth 4000
namespace Go.Proofs.Ytcdcongeogmfkaa
open Go Go.RowKit
set_option maxHeartbeats 400000 in
theorem haslog_any (w : World) (D : DiskOps) (base : Nat) (p : Value) (M : DiskM) (F : Nat → Prop) (h : D.A base w p M F) (f : Int) (hf : -9223372036854775808 ≤ f ∧ f < 9223372036854775808) :
    Calls Try.prog 30 #[p, .int .i64 f] w (Asks w (.bool (mayB M f))) := by
  have C := D.len base w p M F h
  have hk := (D.ok h).hi
  obtain ⟨n, hn⟩ : ∃ n, M.s.length = n := ⟨_, rfl⟩
  have HM : Hid (mayB M f = (decide (0 ≤ f) && decide (f + 6 ≤ (n : Int)))) := Lib.hid (by unfold mayB; rw [hn])
  rw [hn] at C hk
  clear hn h
  by_cases h0 : 0 ≤ f
  · have hq0 : decide (0 ≤ f) = true := decide_eq_true h0
    skip
    go_enter Try.func30, Try.ntmps30
    go_wp2_with fail
    refine C.mono ?_
    rintro e w1 ⟨rfl, hb⟩
    clear C
    go_wp2_with fail
    go_ret
    exact ⟨by rw [HM.out, decide_eq_true h0, Bool.true_and]; exact congrArg (fun b => Ending.returned (Value.bool b)) (decide_eq_decide.2 (by omega)), hb⟩
  · have hq0 : decide (0 ≤ f) = false := decide_eq_false h0
    clear C
    go_enter Try.func30, Try.ntmps30
    go_wp2_with fail
    go_ret
    exact ⟨by rw [HM.out, decide_eq_false (by omega)]; rfl, Below.refl _ _⟩
set_option maxHeartbeats 400000 in
theorem haslog_nil (w : World) (D : DiskOps) (f : Int) (hf : -9223372036854775808 ≤ f ∧ f < 9223372036854775808) :
    Calls Try.prog 30 #[nilPtr, .int .i64 f] w (Asks w (.bool false)) := by
  have C := D.lenNil w
  skip
  by_cases h0 : 0 ≤ f
  · have hq0 : decide (0 ≤ f) = true := decide_eq_true h0
    have hq1 : decide (f < -5) = false := decide_eq_false (by omega)
    go_enter Try.func30, Try.ntmps30
    go_wp2_with fail
    refine C.mono ?_
    rintro e w1 ⟨rfl, hb⟩
    clear C
    go_wp2_with fail
    go_ret
    exact ⟨by first | rfl | simp; omega, hb⟩
  · have hq0 : decide (0 ≤ f) = false := decide_eq_false h0
    clear C
    go_enter Try.func30, Try.ntmps30
    go_wp2_with fail
    go_ret
    exact ⟨by rfl, Below.refl _ _⟩
set_option maxHeartbeats 400000 in
theorem image_any (f k : Int) (w : World) (h0 : 0 ≤ f) (h1 : f ≤ 2000) (h2 : 0 ≤ k) (h3 : k ≤ 2000) : Calls Try.prog 37 #[.int .i64 f, .int .i64 k] w fun e w' => e = .returned (.int .i64 (f + 1 + k)) ∧ w = w' := by
  go_enter Try.func37, Try.ntmps37
  go_wp2_with fail
  go_ret
  exact ⟨rfl, rfl⟩
end Go.Proofs.Ytcdcongeogmfkaa

/- The program's wal: a record's header, its images written, Put. -/
set_option maxRecDepth 4000
namespace Go.Proofs.Ytcdcongeogmfkaa
open Go Go.RowKit
theorem info_rec : (Try.prog.info? 36).map (·.size) = some 3 := by kernel_rfl
theorem size_b32 {b : List (BitVec 8)} (h : b.length = 32) : (Try.prog.info? 52).map (·.size) = some (bs b).size := by rw [size_bs, h]; exact size_blk
theorem same_b32 {b : List (BitVec 8)} (h : b.length = 32) : (bs (blk 0#8)).size = (bs b).size := by rw [size_bs, size_bs, h, length_blk]
set_option maxRecDepth 20000 in
set_option maxHeartbeats 1200000 in
theorem header_any (e0 s0 : BitVec 32) (A : Option Addr) (c : Nat) (l : List (Int × List (BitVec 8))) (w : World) (hv : PutsAt w (.slice A l.length c) l) (h5 : l.length ≤ 5) :
    Calls Try.prog 32 #[.agg (recW ⟨e0, s0, l⟩ (.slice A l.length c))] w fun e w' => e = .returned (.agg (bs (headB e0 s0 (l.map (·.1))))) ∧ Below w.heap.size w w' := by
  obtain ⟨n, hn⟩ : ∃ n, l.length = n := ⟨_, rfl⟩
  have HN := Lib.hid hn
  obtain ⟨hx1, hx2⟩ := enc_head (e := e0) (s := s0) (l := l.map (·.1)) (by rw [List.length_map]; exact h5)
  have hx3 := length_headOf e0 s0 (l.map (·.1))
  have hx4 := length_headB (e := e0) (s := s0) (l := l.map (·.1)) (by rw [List.length_map]; exact h5)
  have hYd : headOf e0 s0 (l.map (·.1)) = four e0 ++ four s0 ++ [byteOf (n : Int)] ++ (l.map (·.1)).map byteOf := by unfold headOf; rw [four_le, four_le, List.length_map, hn]
  obtain ⟨H, hH⟩ : ∃ H, headB e0 s0 (l.map (·.1)) = H := ⟨_, rfl⟩
  obtain ⟨Y, hY⟩ : ∃ Y, headOf e0 s0 (l.map (·.1)) = Y := ⟨_, rfl⟩
  rw [hH] at hx1 hx4 ⊢
  rw [hY] at hx1 hx2 hx3 hYd
  rw [List.length_map, hn] at hx3
  have HY : Hid (Y.length = 9 + n) := Lib.hid hx3
  have HYD := Lib.hid hYd
  have HH : Hid (H.length = 32) := Lib.hid hx4
  have HEN : Hid (∀ (v : Value) (W : World), Item W v Y → Calls Try.prog 48 #[.int .u8 87, v] W fun e w' => e = .returned (.tuple #[.agg (bs H), .int .i64 0]) ∧ Below W.heap.size W w') := Lib.hid (fun v W hi => by
    have := sealOps.enc 0x57#8 Y v W hi
    rw [hx1, hx2] at this
    exact this)
  rw [hn] at hv h5 ⊢
  have HV := Lib.hid hv
  have hz := zeros_blk
  have HS := St.nil w noF
  clear hx1 hx2 hx3 hx4 hYd hH hY hn hv
  go_enter Try.func32, Try.ntmps32
  go_upto_region 2 with (first | ((with_reducible refine wpList_plain ?_ ?_); exact rfl; intro KK hKK; refine wp_st_box HS 36 (.tmp 0) rfl _ rfl (recW ⟨e0, s0, l⟩ (.slice A n c)) (rfl) (fun g1 W1 HSx => hKK _ _ ?_); clear hKK KK HS; have HS : St w noF [⟨g1, 36, recW ⟨e0, s0, l⟩ (.slice A n c)⟩] W1 := HSx; clear HSx) | ((with_reducible refine wpList_plain ?_ ?_); exact rfl; intro KK hKK; refine wp_st_alloc HS 52 (bs (blk 0#8)) rfl (.agg (bs (blk 0#8))) (by kernel_rfl) (rfl) (fun g2 W2 HSx => hKK _ _ ?_); clear hKK KK HS; have HS : St w noF [⟨g1, 36, recW ⟨e0, s0, l⟩ (.slice A n c)⟩, ⟨g2, 52, bs (blk 0#8)⟩] W2 := HSx; clear HSx))
  clear hz
  obtain ⟨B0, hB0⟩ : ∃ B0, W2.heap.size = B0 := ⟨_, rfl⟩
  have HB0 := Lib.hid hB0
  have HVW : Hid (PutsAt W2 (.slice A n c) l) := Lib.hid (HV.out.below HS.below (Nat.le_refl _))
  have c0 : W2.cell? ⟨g1, 0, none⟩ = some (.int .u32 (wd e0)) := (HS.row 0 rfl).get rfl
  have C1 := applong_any B0 [] e0 (.slice none 0 0) W2 (World.ownsRow_nil _ _ _ _) (Nat.le_of_eq hB0.symm) (by decide)
  have HSW := Lib.hid HS
  clear HS hB0
  go_wp2_with fail
  refine C1.mono ?_
  rintro e w1 ⟨v1, rfl, h1, b1⟩
  clear C1 c0
  have HS1 := HSW.out.same (by rw [HB0.out]; exact b1)
  have c1 : w1.cell? ⟨g1, 1, none⟩ = some (.int .u32 (wd s0)) := (HS1.row 0 rfl).get rfl
  have C2 := applong_any B0 (four e0) s0 v1 w1 h1 (by rw [← HB0.out]; exact b1.size) (by simp [four, two])
  have BB1 := Lib.hid b1
  clear h1 HS1 b1
  go_wp2_with fail
  refine C2.mono ?_
  rintro e w2 ⟨v2, rfl, h2, b2⟩
  clear C2 c1
  have BB2 := Lib.hid (BB1.out.trans b2)
  clear b2 BB1
  have HS2 := HSW.out.same (by rw [HB0.out]; exact BB2.out)
  have c2 : w2.cell? ⟨g1, 2, none⟩ = some (.slice A n c) := (HS2.row 0 rfl).get rfl
  have HBZ : Hid (B0 ≤ w2.heap.size) := Lib.hid (by rw [← HB0.out]; exact BB2.out.size)
  have HR4 : Hid (Slice (w2.alloc (.cells #[.int .u8 (bd (byteOf (n : Int)))] 5)) (.slice (some ⟨w2.heap.size, 0, none⟩) 1 1) [byteOf (n : Int)]) := Lib.hid (row_slice (Row.fresh w2 5 (bs [byteOf (n : Int)])) (c := 1) (Nat.le_refl _))
  have HO4 := Lib.hid ((h2).alloc (.cells #[.int .u8 (bd (byteOf (n : Int)))] 5))
  have HB4 : Hid (B0 ≤ (w2.alloc (.cells #[.int .u8 (bd (byteOf (n : Int)))] 5)).heap.size) := Lib.hid (Nat.le_trans (HBZ.out) (Same.alloc w2 _).size)
  have hcv : IntKind.u8.wrap (n : Int) = bd (byteOf (n : Int)) := wrap_u8_bd _
  clear h2 HS2
  go_upto_region 5 with (at_builtin; refine wpList_append_slice rfl (.tmp 16) (.tmp 21) rfl B0 _ 8 _ rfl HO4.out (some ⟨w2.heap.size, 0, none⟩) 1 1 _ rfl HR4.out (fun h => by cases h) (by omega) HB4.out ?_; intro v6 w6 own6 hb6; rw [← bytesV_apps] at own6; have HO6 := Lib.hid own6; have HB6 := Lib.hid hb6; clear own6 hb6)
  have BB6 : Hid (Below B0 W2 w6) := Lib.hid (BB2.out.trans (((Same.alloc w2 (.cells #[.int .u8 (bd (byteOf (n : Int)))] 5)).mono HBZ.out).trans HB6.out))
  have c2 : w6.cell? ⟨g1, 2, none⟩ = some (.slice A n c) := ((HSW.out.same (by rw [HB0.out]; exact BB6.out)).row 0 rfl).get rfl
  obtain ⟨H9, hH9⟩ : ∃ H9, four e0 ++ four s0 ++ [byteOf (n : Int)] = H9 := ⟨_, rfl⟩
  rw [hH9] at HO6 HYD
  clear hH9 HB6 HB4 HO4 HR4 hcv BB2 HBZ
  go_upto_region 6 with fail
  clear c2
  go_loopw [3, 26] (fun bv i wr => ∃ k : Nat, k ≤ n ∧ i = .int .i64 k ∧ wr.ownsRow B0 5 1 bv (9 + k) (bytesV (H9 ++ ((l.map (·.1)).take k).map byteOf)) ∧ Below B0 W2 wr) (fun _ i _ => n - (intOf i).toNat)
  case atStart => exact ⟨0, by omega, rfl, by simpa using HO6.out, BB6.out⟩
  case round =>
    obtain ⟨k, hk, rfl, hO, hB⟩ := hrel
    have HB := Lib.hid hB
    have HO := Lib.hid hO
    have HBS : Hid (B0 ≤ wr.heap.size) := Lib.hid (by rw [← HB0.out]; exact hB.size)
    clear hO hB
    by_cases hlt : k < n
    · obtain ⟨⟨D, q⟩, hx⟩ : ∃ x, l[k]? = some x := ⟨_, List.getElem?_eq_getElem (by rw [HN.out]; exact hlt)⟩
      have HX := Lib.hid hx
      obtain ⟨b, o, rfl, hbw, hr, hq, hlo, hhi⟩ := put_at_mem (HVW.out.below HB.out (by rw [HB0.out]; exact Nat.le_refl _)) HN.out hx
      have HRG := Lib.hid hr
      have HQ := Lib.hid hq
      have hk0 : (0 : Int) ≤ (k : Int) := by omega
      have hk1 : (k : Int) < (n : Int) := by omega
      have HSr := St.nil wr noF
      clear hx hr hq HO6 BB6
      go_upto_region 8 with (first | (refine wpList_load_mid rfl 70 _ rfl b (o + k * 33) rfl (pcell (D, q)) _ HRG.out Try.underlying70 rfl (by rw [len_pcell HQ.out]; exact info_put33) ?_) | ((with_reducible refine wpList_plain ?_ ?_); exact rfl; intro KK hKK; refine wp_st_alloc HSr 70 (zput0) rfl (.agg (zput0)) (by kernel_rfl) (rfl) (fun g5 W11 HSx => hKK _ _ ?_); clear hKK KK HSr; have HSr : St wr noF [⟨g5, 70, zput0⟩] W11 := HSx; clear HSx) | ((with_reducible refine wpList_plain ?_ ?_); exact rfl; intro KK hKK; refine wp_st_store HSr 0 0 70 (.tmp 5) (.tmp 29) rfl rfl rfl (.agg (pcell (D, q)).toArray) rfl (by exact (size_pc HQ.out).symm ▸ info_put33) (by rw [Nat.zero_add]; exact Nat.le_of_eq ((size_pc HQ.out).trans size_zput.symm)) (one_pc (D, q)) ((pcell (D, q)).toArray) (spl_agg _ _ _ rfl (size_zput.trans (size_pc HQ.out).symm)) (fun W12 HSx => hKK _ _ ?_); clear hKK KK HSr; have HSr : St wr noF [⟨g5, 70, (pcell (D, q)).toArray⟩] W12 := HSx; clear HSx))
      have c5 : W12.cell? ⟨g5, 0, none⟩ = some (.int .i64 D) := (HSr.row 0 rfl).get rfl
      have HO5 := Lib.hid (owns_call HO.out HSr.below)
      have HB5 := Lib.hid (HB.out.trans (HSr.below.mono HBS.out))
      have HBZ : Hid (B0 ≤ W12.heap.size) := Lib.hid (Nat.le_trans HBS.out HSr.below.size)
      have HR4 : Hid (Slice (W12.alloc (.cells #[.int .u8 (bd (byteOf D))] 5)) (.slice (some ⟨W12.heap.size, 0, none⟩) 1 1) [byteOf D]) := Lib.hid (row_slice (Row.fresh W12 5 (bs [byteOf D])) (c := 1) (Nat.le_refl _))
      have HO4 := Lib.hid ((HO5.out).alloc (.cells #[.int .u8 (bd (byteOf D))] 5))
      have HB4 : Hid (B0 ≤ (W12.alloc (.cells #[.int .u8 (bd (byteOf D))] 5)).heap.size) := Lib.hid (Nat.le_trans (HBZ.out) (Same.alloc W12 _).size)
      have hcv : IntKind.u8.wrap D = bd (byteOf D) := wrap_u8_bd _
      clear HRG HO HB HBS HSr HO5
      go_wp2_with (at_builtin; refine wpList_append_slice rfl (.tmp 30) (.tmp 34) rfl B0 _ (9 + k) _ rfl HO4.out (some ⟨W12.heap.size, 0, none⟩) 1 1 _ rfl HR4.out (fun h => by cases h) (by omega) HB4.out ?_; intro v6 w6 own6 hb6; rw [← bytesV_apps] at own6; have HO6 := Lib.hid own6; have HB6 := Lib.hid hb6; clear own6 hb6)
      refine ⟨⟨k + 1, by omega, by go_num, ?_, HB5.out.trans (((Same.alloc W12 (.cells #[.int .u8 (bd (byteOf D))] 5)).mono HBZ.out).trans HB6.out)⟩, by simp [intOf] <;> omega⟩
      have e9 : (l.map (·.1)).take (k + 1) = (l.map (·.1)).take k ++ [D] := by
        rw [List.take_succ_eq_append_getElem (by rw [List.length_map]; exact (List.getElem?_eq_some_iff.1 HX.out).1)]
        congr 2
        have := HX.out
        rw [List.getElem?_eq_some_iff] at this
        obtain ⟨_, h⟩ := this
        rw [List.getElem_map, h]
      rw [e9, List.map_append, List.map_singleton, ← List.append_assoc]
      exact HO6.out
    · obtain rfl : k = n := by omega
      have htake : (l.map (·.1)).take k = l.map (·.1) := List.take_of_length_le (by rw [List.length_map]; exact Nat.le_of_eq HN.out)
      have HS := HSW.out.same (by rw [HB0.out]; exact HB.out)
      rw [htake, ← HYD.out] at HO
      have hI : Item wr _ Y := own_item (by rw [HY.out]; exact HO.out) (by rw [HY.out]; simp only [maxLen]; omega)
      have C := HEN.out _ wr hI
      have hz := zeros_blk
      have hq : decide ((k : Int) < (k : Int)) = false := decide_eq_false (by omega)
      clear htake hI HEN HO HB HBS HSW HO6 BB6 HVW HV hlt
      go_wp2_with fail
      refine C.mono ?_
      rintro e w9 ⟨rfl, hb9⟩
      have HSx := HS.same hb9
      clear HS hb9 C
      have HS := HSx
      clear HSx
      go_wp2_with (first | ((with_reducible refine wpList_plain ?_ ?_); exact rfl; intro KK hKK; refine wp_st_alloc HS 52 (bs (blk 0#8)) rfl (.agg (bs (blk 0#8))) (by kernel_rfl) (rfl) (fun g6 W21 HSx => hKK _ _ ?_); clear hKK KK HS; have HS : St w noF [⟨g1, 36, recW ⟨e0, s0, l⟩ (.slice A k c)⟩, ⟨g2, 52, bs (blk 0#8)⟩, ⟨g6, 52, bs (blk 0#8)⟩] W21 := HSx; clear HSx) | ((with_reducible refine wpList_plain ?_ ?_); exact rfl; intro KK hKK; refine wp_st_store HS 2 0 52 (.tmp 6) (.tmp 40) rfl rfl rfl (.agg (bs H)) rfl (by exact size_b32 HH.out) (by rw [Nat.zero_add]; exact Nat.le_of_eq (Eq.symm (same_b32 HH.out))) (by first | exact one_bs _ | exact one_pc _) (bs H) (spl_agg _ _ _ rfl (same_b32 HH.out)) (fun W22 HSx => hKK _ _ ?_); clear hKK KK HS; have HS : St w noF [⟨g1, 36, recW ⟨e0, s0, l⟩ (.slice A k c)⟩, ⟨g2, 52, bs (blk 0#8)⟩, ⟨g6, 52, bs H⟩] W22 := HSx; clear HSx) | ((with_reducible refine wpList_plain ?_ ?_); exact rfl; intro KK hKK; refine wp_st_load HS 2 0 52 (.tmp 6) rfl rfl rfl (bs H) (slab_whole _) _ Try.underlying52 rfl (size_b32 HH.out) (hKK _ _ ?_); clear hKK KK) | ((with_reducible refine wpList_plain ?_ ?_); exact rfl; intro KK hKK; refine wp_st_store HS 1 0 52 (.tmp 2) (.tmp 42) rfl rfl rfl (.agg (bs H)) rfl (by exact size_b32 HH.out) (by rw [Nat.zero_add]; exact Nat.le_of_eq (Eq.symm (same_b32 HH.out))) (by first | exact one_bs _ | exact one_pc _) (bs H) (spl_agg _ _ _ rfl (same_b32 HH.out)) (fun W23 HSx => hKK _ _ ?_); clear hKK KK HS; have HS : St w noF [⟨g1, 36, recW ⟨e0, s0, l⟩ (.slice A k c)⟩, ⟨g2, 52, bs H⟩, ⟨g6, 52, bs H⟩] W23 := HSx; clear HSx))
      exact bodyPost_ret (v := .agg (bs H)) (results_cell_row Try.results32 _ _ g2 52 (bs H) (0, 0) _ rfl (HS.row 1 rfl) Try.underlying52 rfl (size_b32 HH.out)) rfl ⟨rfl, HS.below⟩
end Go.Proofs.Ytcdcongeogmfkaa

/- The program's wal: a record's images written, Put. -/
set_option maxRecDepth 4000
namespace Go.Proofs.Ytcdcongeogmfkaa
open Go Go.RowKit
theorem pc_block {D : Int} {q : List (BitVec 8)} (h : q.length = 32) : ((pcell (D, q)).toArray.toList.drop 1).take (bs q).size = (bs q).toList := by
  rw [size_bs, h, bs_toList]
  show (bytesV q).take 32 = bytesV q
  exact List.take_of_length_le (by rw [len_bytesV, h]; exact Nat.le_refl _)
theorem orElse_assoc (a : Int × DiskM) (k1 k2 : DiskM → Int × DiskM) : (orElse a fun M => orElse (k1 M) k2) = orElse (orElse a k1) k2 := by
  unfold orElse
  by_cases h : a.1 = 0
  · rw [if_pos h, if_pos h]
  · rw [if_neg h, if_neg h, if_neg h]
theorem imgs_l : ∀ (bl : List (List (BitVec 8))) (M : DiskM) (f : Int), (imgs M f bl).2.l.length ≤ M.l.length + bl.length
  | [], M, f => Nat.le_refl _
  | b :: bl, M, f => by
    show (orElse (M.wRes f b) fun M => imgs M (f + 1) bl).2.l.length ≤ M.l.length + (bl.length + 1)
    have h1 := wRes_l M f b (Nat.le_refl _)
    unfold orElse
    split
    · have := imgs_l bl (M.wRes f b).2 (f + 1); show (imgs (M.wRes f b).2 (f + 1) bl).2.l.length ≤ _; omega
    · omega
theorem runs_l (bl : List (List (BitVec 8))) (M : DiskM) (f : Int) : (orElse (imgs M f bl) fun M => M.fRes).2.l.length ≤ M.l.length + bl.length := by
  have h1 := imgs_l bl M f
  unfold orElse
  split
  · have := fRes_l (imgs M f bl).2; show (imgs M f bl).2.fRes.2.l.length ≤ _; omega
  · exact h1
set_option maxRecDepth 20000 in
set_option maxHeartbeats 1200000 in
theorem wimg_any (D : DiskOps) (base : Nat) (w : World) (p : Value) (M : DiskM) (F : Nat → Prop) (f : Int) (A : Option Addr) (c : Nat) (l : List (Int × List (BitVec 8))) (h : D.A base w p M F)
    (hv : PutsAt w (.slice A l.length c) l) (hA : l ≠ [] → ∀ k, (Value.slice A l.length c).ownBlock = some k → ¬ F k) (h5 : l.length ≤ 5) (hf0 : 0 ≤ f) (hf1 : f ≤ 1024) (hM : M.l.length + 10 ≤ few) :
    Calls Try.prog 31 #[p, .int .i64 f, .slice A l.length c] w (Acts D.A base w p F (orElse (imgs M (f + 1) (l.map (·.2))) fun M => M.fRes).2 (.int .i64 (orElse (imgs M (f + 1) (l.map (·.2))) fun M => M.fRes).1)) := by
  obtain ⟨n, hn⟩ : ∃ n, l.length = n := ⟨_, rfl⟩
  have HN := Lib.hid hn
  obtain ⟨K1, hK1⟩ : ∃ K1 : DiskM → Int × DiskM, (fun M => M.fRes) = K1 := ⟨_, rfl⟩
  have HK1 := Lib.hid hK1
  obtain ⟨RES, hRES⟩ : ∃ R, (orElse (imgs M (f + 1) (l.map (·.2))) fun M => M.fRes) = R := ⟨_, rfl⟩
  have HR : Hid (RES = orElse (imgs M (f + 1) (l.map (·.2))) K1) := Lib.hid (by rw [← hRES, ← hK1])
  rw [hRES]
  rw [hn] at hv hA h5 ⊢
  have HV := Lib.hid hv
  have HA := Lib.hid hA
  have HD0 : Hid (DSt D base w p F M w) := Lib.hid (DSt.start h)
  have HMB := Lib.hid hM
  have HFB : Hid (0 ≤ f ∧ f ≤ 1024) := Lib.hid ⟨hf0, hf1⟩
  clear hK1 hRES hn hv hA h hM
  go_enter Try.func31, Try.ntmps31
  go_wp2_with fail
  go_loopw [12] (fun i wr => ∃ (k : Nat) (Mk : DiskM), k ≤ n ∧ i = .int .i64 k ∧ DSt D base w p F Mk wr ∧ RES = orElse (imgs Mk (f + 1 + k) ((l.map (·.2)).drop k)) K1 ∧ Mk.l.length ≤ M.l.length + k) (fun i _ => n - (intOf i).toNat)
  case atStart => exact ⟨0, M, by omega, rfl, HD0.out, by rw [HR.out]; simp, by omega⟩
  case round =>
    obtain ⟨k, Mk, hk, rfl, hD, hR, hML⟩ := hrel
    have HDk := Lib.hid hD
    have HRk := Lib.hid hR
    have HML := Lib.hid hML
    clear hD hR hML
    by_cases hlt : k < n
    · obtain ⟨⟨B, q⟩, hx⟩ : ∃ x, l[k]? = some x := ⟨_, List.getElem?_eq_getElem (by rw [HN.out]; exact hlt)⟩
      obtain ⟨b, o, rfl, hbw, hr, hq, hlo, hhi⟩ := put_at_mem (puts_chg HV.out HDk.out.chg HA.out) HN.out hx
      have HRG := Lib.hid hr
      have HQ := Lib.hid hq
      have hk0 : (0 : Int) ≤ (k : Int) := by omega
      have hk1 : (k : Int) < (n : Int) := by omega
      have HIM : Hid (0 ≤ f ∧ f ≤ 2000 ∧ (0 : Int) ≤ (k : Int) ∧ (k : Int) ≤ 2000) := Lib.hid ⟨by omega, by omega, by omega, by omega⟩
      obtain ⟨res, hres⟩ : ∃ res, Mk.wRes (f + 1 + (k : Int)) q = res := ⟨_, rfl⟩
      have hL6 : (Mk.wRes (f + 1 + (k : Int)) q).2.l.length ≤ M.l.length + k + 1 := wRes_l Mk _ q HML.out
      have hdrop : (l.map (·.2)).drop k = q :: (l.map (·.2)).drop (k + 1) := by
        rw [← List.getElem_cons_drop (by rw [List.length_map]; exact (List.getElem?_eq_some_iff.1 hx).1)]
        congr 1
        rw [List.getElem?_eq_some_iff] at hx
        obtain ⟨_, h⟩ := hx
        rw [List.getElem_map, h]
      have hR6 : RES = orElse (orElse res fun M => imgs M (f + 1 + (k : Int) + 1) ((l.map (·.2)).drop (k + 1))) K1 := by rw [HRk.out, hdrop, ← hres]; rfl
      have HWR : Hid (∀ F1 W, D.A base W p Mk F1 → Calls Try.prog 21 #[p, .int .i64 (f + 1 + (k : Int)), .agg (bs q)] W (Acts D.A base W p F1 res.2 (.int .i64 res.1))) := Lib.hid (fun F1 W h1 => by
        have C := D.write base W p Mk F1 (f + 1 + (k : Int)) q h1 hq (by have := HML.out; have := HMB.out; omega) (by have := HFB.out; omega)
        rw [hres] at C
        exact C)
      rw [hres] at hL6
      obtain ⟨rr, M'⟩ := res
      have HRR : Hid ((rr = 0 → RES = orElse (imgs M' (f + 1 + ((k + 1 : Nat) : Int)) ((l.map (·.2)).drop (k + 1))) K1) ∧ (rr ≠ 0 → RES = (rr, M')) ∧ M'.l.length ≤ M.l.length + k + 1) := Lib.hid ⟨fun e => by
        subst e
        rw [hR6, show f + 1 + ((k + 1 : Nat) : Int) = f + 1 + (k : Int) + 1 by omega]; rfl, fun e => by rw [hR6]; unfold orElse; rw [if_neg e, if_neg e], hL6⟩
      have HSr := St.nil wr noF
      clear hx hr hq hdrop hR6 hL6 hres
      go_upto_region 4 with (first | (refine wpList_load_mid rfl 70 _ rfl b (o + k * 33) rfl (pcell (B, q)) _ HRG.out Try.underlying70 rfl (by rw [len_pcell HQ.out]; exact info_put33) ?_) | ((with_reducible refine wpList_plain ?_ ?_); exact rfl; intro KK hKK; refine wp_st_alloc HSr 70 (zput0) rfl (.agg (zput0)) (by kernel_rfl) (rfl) (fun g8 W11 HSx => hKK _ _ ?_); clear hKK KK HSr; have HSr : St wr noF [⟨g8, 70, zput0⟩] W11 := HSx; clear HSx) | ((with_reducible refine wpList_plain ?_ ?_); exact rfl; intro KK hKK; refine wp_st_store HSr 0 0 70 (.tmp 8) (.tmp 16) rfl rfl rfl (.agg (pcell (B, q)).toArray) rfl (by exact (size_pc HQ.out).symm ▸ info_put33) (by rw [Nat.zero_add]; exact Nat.le_of_eq ((size_pc HQ.out).trans size_zput.symm)) (one_pc (B, q)) ((pcell (B, q)).toArray) (spl_agg _ _ _ rfl (size_zput.trans (size_pc HQ.out).symm)) (fun W12 HSx => hKK _ _ ?_); clear hKK KK HSr; have HSr : St wr noF [⟨g8, 70, (pcell (B, q)).toArray⟩] W12 := HSx; clear HSx))
      have hF0 : Wl [fun W => St wr noF [⟨g8, 70, (pcell (B, q)).toArray⟩] W, fun W => DSt D base w p F M' W] 0 W12.drew := HSr.drew
      clear HSr HRG
      refine wp_region_phs [is (p), is (.int .i64 f), is (.int .i64 (k : Int)), is (.int .i64 (f + 1 + (k : Int))), is (.pointer (some ⟨g8, 1, none⟩)), is (.agg (bs q)), is (.int .i64 rr), is (.int .i64 rr)] [true, true, true, true, true, true, true, true] [(fun W => St wr noF [⟨g8, 70, (pcell (B, q)).toArray⟩] W), (fun W => DSt D base w p F M' W)] [false, false, false, false, false, false, true, false] [some 0, some 0, some 0, some 0, some 0, some 0, some 0, some 1] [some 17, some 18, some 19, some 20, some 21, some 22, some 23, some 9] 8 1 (fun _ => true) rfl rfl (by kernel_rfl) (by kernel_rfl) (by kernel_rfl) (by kernel_rfl) ?_ ?_ ?_ ?_ ?_ ?_
      · repeat first | exact wok_nil | refine wok_cons (by first | exact fun _ _ h k => h.same k) ?_
      · repeat first | exact vok_nil | refine vok_rig (by first | exact fun _ _ _ h => h) ?_ | refine vok_soft (by first | exact fun _ _ _ h _ => h) ?_
      · exact hF0
      · repeat first | exact all_end (by decide) | refine all_cons (by first | exact rfl | exact ⟨rfl, fun _ _ h => Or.inl h⟩ | exact ⟨rfl, fun _ _ h => Or.inr ⟨h, rfl⟩⟩) ?_
      · refine allp_mild 0 rfl rfl rfl (fun a x W hout hin hP => ?_) ?_
        · have e0 : a.tmps[0]? = some (p) := (hout 0 (by kernel_rfl)).trans rfl
          exact does_move rfl e0 ⟨Same.refl _, rfl⟩
        refine allp_mild 0 rfl rfl rfl (fun a x W hout hin hP => ?_) ?_
        · have e1 : a.tmps[1]? = some (.int .i64 f) := (hout 1 (by kernel_rfl)).trans rfl
          exact does_move rfl e1 ⟨Same.refl _, rfl⟩
        refine allp_mild 0 rfl rfl rfl (fun a x W hout hin hP => ?_) ?_
        · have e7 : a.tmps[7]? = some (.int .i64 (k : Int)) := (hout 7 (by kernel_rfl)).trans rfl
          exact does_move rfl e7 ⟨Same.refl _, rfl⟩
        refine allp_mild 0 rfl rfl rfl (fun a x W hout hin hP => ?_) ?_
        · have e18 := hin.is 1 18 (by kernel_rfl) (by decide) (by kernel_rfl) (by kernel_rfl) _ rfl
          have e19 := hin.is 2 19 (by kernel_rfl) (by decide) (by kernel_rfl) (by kernel_rfl) _ rfl
          have C := image_any f (k : Int) W HIM.out.1 HIM.out.2.1 HIM.out.2.2.1 HIM.out.2.2.2
          clear hP
          clear hin hout
          intro K Q hK
          go_simp
          refine C.mono ?_
          rintro e W' ⟨rfl, rfl⟩
          exact hK _ _ ⟨Same.refl _, rfl⟩
        refine allp_mild 0 rfl rfl rfl (fun a x W hout hin hP => ?_) ?_
        · have e8 : a.tmps[8]? = some (.pointer (some ⟨g8, 0, none⟩)) := (hout 8 (by kernel_rfl)).trans rfl
          clear hP
          clear hin hout
          intro K Q hK
          go_simp
          exact hK _ _ ⟨Same.refl _, rfl⟩
        refine allp_mild 0 rfl rfl rfl (fun a x W hout hin hP => ?_) ?_
        · have e21 := hin.is 4 21 (by kernel_rfl) (by decide) (by kernel_rfl) (by kernel_rfl) _ rfl
          clear hin hout
          intro K Q hK
          exact wp_st_load hP 0 1 52 (.tmp 21) rfl rfl (eval_of_get e21) (bs q) (pc_block HQ.out) _ Try.underlying52 rfl (size_b32 HQ.out) (hK _ _ ⟨Same.refl _, rfl⟩)
        refine allp_wild 0 rfl rfl rfl (fun a x W hout hin hP => ?_) ?_
        · have e17 := hin.is 0 17 (by kernel_rfl) (by decide) (by kernel_rfl) (by kernel_rfl) _ rfl
          have e20 := hin.is 3 20 (by kernel_rfl) (by decide) (by kernel_rfl) (by kernel_rfl) _ rfl
          have e22 := hin.is 5 22 (by kernel_rfl) (by decide) (by kernel_rfl) (by kernel_rfl) _ rfl
          have hd : DSt D base w p F Mk W := HDk.out.same hP.below
          obtain ⟨F1, h1, _, _, hN⟩ := hd.next
          have C := HWR.out F1 W h1
          clear hP hd
          clear hin hout
          intro K Q hK
          go_simp
          refine C.mono ?_
          rintro e W' ⟨rfl, hq⟩
          exact hK _ _ ⟨hN _ _ hq, rfl⟩
        refine allp_mild 1 rfl rfl rfl (fun a x W hout hin hP => ?_) ?_
        · have e23 := hin.is 6 23 (by kernel_rfl) (by decide) (by kernel_rfl) (by kernel_rfl) _ rfl
          exact does_assign rfl e23 ⟨Same.refl _, rfl⟩
        exact all_end (by decide)
      · intro x W hP hV
        have HD6 : DSt D base w p F M' W := hP
        have h9 : x 7 = .int .i64 rr := hV 7 (by decide) (.inl (by kernel_rfl))
        clear hP hV
        simp only [putL, Act.put, List.setIfInBounds_toArray, List.set_cons_succ, List.set_cons_zero, h9]
        refine wpAnyH_done (by kernel_rfl) ?_ _
        clear h9
        by_cases hr0 : rr = 0
        · subst hr0
          go_wp2_with fail
          exact ⟨⟨k + 1, M', by omega, by go_num, HD6, HRR.out.1 rfl, by have := HRR.out.2.2; omega⟩, by simp [intOf] <;> omega⟩
        · have hq0 : (rr == 0) = false := by simpa using hr0
          have hRf := HRR.out.2.1 hr0
          go_wp2_with fail
          go_ret
          first | exact HD6.acts rfl | (rw [hRf]; exact HD6.acts rfl)
    · obtain rfl : k = n := by omega
      have hnil : (l.map (·.2)).drop k = [] := List.drop_eq_nil_of_le (by rw [List.length_map]; exact Nat.le_of_eq HN.out)
      have hR8 : RES = Mk.fRes := by rw [HRk.out, hnil, ← HK1.out]; rfl
      obtain ⟨F1, h1, _, _, hN⟩ := HDk.out.next
      have C := D.flush base wr p Mk F1 h1 (by have := HML.out; have := HMB.out; omega)
      rw [← hR8] at C
      clear hnil hR8 h1
      have hq : decide ((k : Int) < (k : Int)) = false := decide_eq_false (by omega)
      go_wp2_with fail
      refine C.mono ?_
      rintro e W8 ⟨rfl, hd⟩
      have HD9 := hN _ _ hd
      clear C hd hN
      go_wp2_with fail
      go_ret
      exact HD9.acts rfl
set_option maxRecDepth 20000 in
set_option maxHeartbeats 1200000 in
theorem walput_any (D : DiskOps) (base : Nat) (w : World) (p : Value) (M : DiskM) (F : Nat → Prop) (f : Int) (e0 s0 : BitVec 32) (A : Option Addr) (c : Nat) (l : List (Int × List (BitVec 8))) (h : D.A base w p M F)
    (hf : -9223372036854775808 ≤ f ∧ f < 9223372036854775808) (hv : PutsAt w (.slice A l.length c) l) (hl : l.length ≤ maxLen) (hA : l ≠ [] → ∀ k, (Value.slice A l.length c).ownBlock = some k → k < w.heap.size ∧ ¬ F k) (hM : M.l.length + 10 ≤ few) :
    Calls Try.prog 12 #[p, .int .i64 f, .agg (recW ⟨e0, s0, l⟩ (.slice A l.length c))] w (Acts D.A base w p F (walPut M f ⟨e0, s0, l⟩).2 (.int .i64 (walPut M f ⟨e0, s0, l⟩).1)) := by
  obtain ⟨n, hn⟩ : ∃ n, l.length = n := ⟨_, rfl⟩
  have HN := Lib.hid hn
  have HRES : Hid (walPut M f ⟨e0, s0, l⟩ = if mayB M f && goodB (l.map (·.1)) then orElse (orElse (imgs M (f + 1) (l.map (·.2))) fun M => M.fRes) fun M => orElse (M.wRes f (headB e0 s0 (l.map (·.1)))) fun M => M.fRes else (1, M)) := Lib.hid (by
    unfold walPut; rw [orElse_assoc]; rfl)
  obtain ⟨RES, hRES⟩ : ∃ R, walPut M f ⟨e0, s0, l⟩ = R := ⟨_, rfl⟩
  rw [hRES] at HRES ⊢
  have HML : Hid (M.s.length ≤ 1024 ∧ M.l.length + 10 ≤ few) := Lib.hid ⟨(D.ok h).hi, hM⟩
  have HFl : Hid (∀ k, F k → k < w.heap.size) := Lib.hid fun k hk => (D.lt h k hk).2
  have HF := Lib.hid hf
  have HL := Lib.hid hl
  have HV := Lib.hid (show PutsAt w (.slice A n c) l by rw [← hn]; exact hv)
  have HA := Lib.hid (show l ≠ [] → ∀ k, (Value.slice A n c).ownBlock = some k → k < w.heap.size ∧ ¬ F k by rw [← hn]; exact hA)
  have HA0 := Lib.hid h
  rw [hn]
  clear hRES hM hf hl hv hA h hn
  have HS := St.nil w noF
  go_enter Try.func12, Try.ntmps12
  go_upto_region 1 with (first | ((with_reducible refine wpList_plain ?_ ?_); exact rfl; intro KK hKK; refine wp_st_box HS 36 (.tmp 2) rfl _ rfl (recW ⟨e0, s0, l⟩ (.slice A n c)) (rfl) (fun g5 W1 HSx => hKK _ _ ?_); clear hKK KK HS; have HS : St w noF [⟨g5, 36, recW ⟨e0, s0, l⟩ (.slice A n c)⟩] W1 := HSx; clear HSx))
  have HB1 := Lib.hid HS.below
  have R5 := Lib.hid (HS.row 0 rfl)
  have HG5 : Hid (¬ F g5) := Lib.hid (fun hF => by
    have h1 := HFl.out g5 hF
    rcases HS.own 0 _ rfl with h2 | h2
    · exact h2
    · exact absurd h1 (Nat.not_lt.2 h2))
  have HA1 := Lib.hid (D.still HA0.out HB1.out)
  have HV1 := Lib.hid (HV.out.below HB1.out (Nat.le_refl _))
  have C1 := haslog_any W1 D base p M F HA1.out f HF.out
  clear HS
  go_wp2_with fail
  refine C1.mono ?_
  rintro e w1 ⟨rfl, b1⟩
  have B1 := Lib.hid b1
  clear C1 b1
  cases hmay : mayB M f with
  | false =>
    have hR : RES = (1, M) := by rw [HRES.out, hmay]; rfl
    go_wp2_with fail
    go_ret
    first | exact (((DSt.start HA1.out).same B1.out).rebase HB1.out).acts rfl | (rw [hR]; exact (((DSt.start HA1.out).same B1.out).rebase HB1.out).acts rfl)
  | true =>
    have k2 : w1.cell? ⟨g5, 2, none⟩ = some (.slice A n c) := (R5.out.call B1.out).get rfl
    have C2 := walgood_any l (.slice A n c) w1 (HV1.out.below B1.out (Nat.le_refl _)) HL.out
    go_wp2_with fail
    refine C2.mono ?_
    rintro e w2 ⟨rfl, b2⟩
    have B2 := Lib.hid (B1.out.trans (b2.mono B1.out.size))
    clear C2 b2 k2
    cases hgood : goodB (l.map (·.1)) with
    | false =>
      have hR : RES = (1, M) := by rw [HRES.out, hgood, Bool.and_false]; rfl
      clear hgood hmay
      go_wp2_with fail
      go_ret
      first | exact (((DSt.start HA1.out).same B2.out).rebase HB1.out).acts rfl | (rw [hR]; exact (((DSt.start HA1.out).same B2.out).rebase HB1.out).acts rfl)
    | true =>
      have HR : Hid (RES = orElse (orElse (imgs M (f + 1) (l.map (·.2))) fun M => M.fRes) fun M => orElse (M.wRes f (headB e0 s0 (l.map (·.1)))) fun M => M.fRes) := Lib.hid (by rw [HRES.out, hmay, hgood]; rfl)
      have HM6 : Hid (0 ≤ f ∧ f + 6 ≤ (M.s.length : Int)) := Lib.hid (by unfold mayB at hmay; simpa using hmay)
      have HN5 : Hid (1 ≤ n ∧ n ≤ 5) := Lib.hid (by unfold goodB at hgood; simp only [Bool.and_eq_true, decide_eq_true_eq, List.length_map] at hgood; have := HN.out; omega)
      clear hgood hmay HRES
      have k2 : w2.cell? ⟨g5, 2, none⟩ = some (.slice A n c) := (R5.out.call B2.out).get rfl
      have C3 := wimg_any D base w2 p M F f A c l (D.still HA1.out B2.out) (by rw [HN.out]; exact HV1.out.below B2.out (Nat.le_refl _)) (by rw [HN.out]; exact fun hne k hk => (HA.out hne k hk).2) (by rw [HN.out]; exact HN5.out.2) HM6.out.1 (by have := HM6.out; have := HML.out; omega) HML.out.2
      obtain ⟨res, hres⟩ : ∃ res, (orElse (imgs M (f + 1) (l.map (·.2))) fun M => M.fRes) = res := ⟨_, rfl⟩
      have HLL : Hid (res.2.l.length ≤ M.l.length + n) := Lib.hid (by rw [← hres]; have := runs_l (l.map (·.2)) M (f + 1); rwa [List.length_map, HN.out] at this)
      rw [hres, HN.out] at C3
      rw [hres] at HR
      obtain ⟨r3, M3⟩ := res
      clear hres
      go_wp2_with fail
      refine C3.mono ?_
      rintro e w3 ⟨rfl, hd⟩
      have HD3 := Lib.hid (DSt.rebase B2.out (show DSt D base w2 p F M3 w3 from hd))
      clear C3 hd k2
      by_cases hr0 : r3 = 0
      case neg =>
        have hq0 : (r3 == 0) = false := by simpa using hr0
        have hR : RES = (r3, M3) := by rw [HR.out]; unfold orElse; rw [if_neg hr0]
        go_wp2_with fail
        go_ret
        first | exact (HD3.out.rebase HB1.out).acts rfl | (rw [hR]; exact (HD3.out.rebase HB1.out).acts rfl)
      subst hr0
      have HR4 : Hid (RES = orElse (M3.wRes f (headB e0 s0 (l.map (·.1)))) fun M => M.fRes) := Lib.hid (by rw [HR.out]; rfl)
      have r5 := HD3.out.row R5.out HG5.out
      have rr : w3.rangeAt g5 0 (recW ⟨e0, s0, l⟩ (.slice A n c)).toList := r5.slab 0 _ (by rw [List.drop_zero]; exact List.take_length)
      have C4 := header_any e0 s0 A c l w3 (by rw [HN.out]; exact puts_chg HV1.out HD3.out.chg (fun hne k hk => (HA.out hne k hk).2)) (by rw [HN.out]; exact HN5.out.2)
      rw [HN.out] at C4
      obtain ⟨H, hH⟩ : ∃ H, headB e0 s0 (l.map (·.1)) = H := ⟨_, rfl⟩
      have HH : Hid (H.length = 32) := Lib.hid (by rw [← hH]; exact length_headB (by rw [List.length_map, HN.out]; exact HN5.out.2))
      rw [hH] at C4 HR4
      clear hH HR r5
      go_wp2_with (refine wpList_load_mid rfl 36 _ rfl g5 0 rfl (recW ⟨e0, s0, l⟩ (.slice A n c)).toList _ rr Try.underlying36 rfl info_rec ?_)
      refine C4.mono ?_
      rintro e w4 ⟨rfl, b4⟩
      have HD4 := HD3.out.same b4
      clear C4 b4 rr
      obtain ⟨F4, h4, _, _, hN⟩ := HD4.next
      have C5 := D.write base w4 p M3 F4 f H h4 HH.out (by have := HLL.out; have := HN5.out; have := HML.out.2; show M3.l.length ≤ few; omega) HF.out
      have HLX : Hid ((M3.wRes f H).2.l.length ≤ M.l.length + n + 1) := Lib.hid (wRes_l M3 f H HLL.out)
      obtain ⟨⟨r9, M9⟩, hres⟩ : ∃ res, M3.wRes f H = res := ⟨_, rfl⟩
      rw [hres] at C5 HLX HR4
      clear hres h4 HD4
      go_wp2_with fail
      refine C5.mono ?_
      rintro e w5 ⟨rfl, hd⟩
      have HD5 := Lib.hid (hN _ _ hd)
      clear C5 hd hN
      by_cases hr0 : r9 = 0
      case neg =>
        have hq0 : (r9 == 0) = false := by simpa using hr0
        have hR : RES = (r9, M9) := by rw [HR4.out]; unfold orElse; rw [if_neg hr0]
        go_wp2_with fail
        go_ret
        first | exact (HD5.out.rebase HB1.out).acts rfl | (rw [hR]; exact (HD5.out.rebase HB1.out).acts rfl)
      subst hr0
      have HR5 : Hid (RES = M9.fRes) := Lib.hid (by rw [HR4.out]; rfl)
      obtain ⟨F5, h5, _, _, hN⟩ := HD5.out.next
      have C6 := D.flush base w5 p M9 F5 h5 (by have := HLX.out; have := HN5.out; have := HML.out.2; omega)
      rw [← HR5.out] at C6
      clear h5
      go_wp2_with fail
      refine C6.mono ?_
      rintro e w6 ⟨rfl, hd⟩
      have HD6 := hN _ _ hd
      clear C6 hd hN
      go_wp2_with fail
      go_ret
      exact (HD6.rebase HB1.out).acts rfl
set_option maxHeartbeats 400000 in
theorem walput_nil (D : DiskOps) (w : World) (f : Int) (e0 s0 : BitVec 32) (A : Option Addr) (c : Nat) (l : List (Int × List (BitVec 8))) (hf : -9223372036854775808 ≤ f ∧ f < 9223372036854775808) :
    Calls Try.prog 12 #[nilPtr, .int .i64 f, .agg (recW ⟨e0, s0, l⟩ (.slice A l.length c))] w (Asks w (.int .i64 1)) := by
  obtain ⟨n, hn⟩ : ∃ n, l.length = n := ⟨_, rfl⟩
  rw [hn]
  clear hn
  have HF := Lib.hid hf
  clear hf
  have HS := St.nil w noF
  go_enter Try.func12, Try.ntmps12
  go_upto_region 1 with (first | ((with_reducible refine wpList_plain ?_ ?_); exact rfl; intro KK hKK; refine wp_st_box HS 36 (.tmp 2) rfl _ rfl (recW ⟨e0, s0, l⟩ (.slice A n c)) (rfl) (fun g5 W1 HSx => hKK _ _ ?_); clear hKK KK HS; have HS : St w noF [⟨g5, 36, recW ⟨e0, s0, l⟩ (.slice A n c)⟩] W1 := HSx; clear HSx))
  have HB1 := Lib.hid HS.below
  have C1 := haslog_nil W1 D f HF.out
  clear HS
  go_wp2_with fail
  refine C1.mono ?_
  rintro e w1 ⟨rfl, b1⟩
  clear C1
  go_wp2_with fail
  go_ret
  exact ⟨rfl, HB1.out.trans (b1.mono HB1.out.size)⟩
end Go.Proofs.Ytcdcongeogmfkaa

/- The program's wal: the record of a header. -/
set_option maxRecDepth 4000
namespace Go.Proofs.Ytcdcongeogmfkaa
open Go Go.RowKit
theorem zeros_rw : (#[.int .u32 0, .int .u32 0, .slice none 0 0] : Array Value) = recW rec0 (.slice none 0 0) := by rfl
theorem one_rw (r : Rec) (A : Option Addr) (n c : Nat) : (recW r (.slice A n c)).all (·.oneCell') = true := by simp [recW, Value.oneCell']
theorem size_s30 {b : List (BitVec 8)} (h : b.length = 30) : (Try.prog.info? 101).map (·.size) = some (bs b).size := by rw [size_bs, h]; exact size_sec
theorem same_s30 {b : List (BitVec 8)} (h : b.length = 30) : (bs (zer 30)).size = (bs b).size := by rw [size_bs, size_bs, h, length_zer]
theorem wp_make_puts {o : Oper} {a : Act} {W : World} {K : Act → World → Prop} {Q : Exit → Act → World → Prop} (l c : Operand) (hop : o.op = .makeSlice 34 l c) (kl kc : IntKind) (n : Nat) (h5 : n ≤ 5) (hl : a.eval l = .int kl (n : Int)) (hc : a.eval c = .int kc (n : Int))
    (hK : K (a.put o.dst (.slice (some ⟨W.heap.size, 0, none⟩) n n)) (W.alloc (.cells (pcs (List.replicate n (0, zer 32))) 70))) : o.wp Try.prog a W K Q := by
  obtain ⟨i0, hi, hz0, hz1, hz2⟩ := info_parts info_put
  have hr := run_make (P := Try.prog) W 34 70 i0 (.agg zput0) Try.underlying34 hi hz0 kl kc n n (by omega) (Int.le_refl _) (by rw [hz2]; omega) (by omega)
  simp only [Int.toNat_natCast] at hr
  rw [hz1, show (Value.agg zput0).cells = zput0 from rfl, made_puts n h5] at hr
  unfold Oper.wp
  simp [execOp, hop, hl, hc, hr, Result.andThen]
  exact hK
def HeadTold (w : World) (b : List (BitVec 8)) : Ending → World → Prop := fun e w' =>
  if isHead b = true then ∃ g, e = .returned (.tuple #[.agg (recW ⟨num ((bodyOf b).take 4), num (((bodyOf b).drop 4).take 4), []⟩ (.slice (some ⟨g, 0, none⟩) (cnt b) (cnt b))), .int .i64 0]) ∧ Row w' g 70 (pcs ((atsOf b).map fun i => (i, zer 32))) ∧ w.heap.size ≤ g ∧ Below w.heap.size w w'
  else e = .returned (.tuple #[.agg (recW rec0 (.slice none 0 0)), .int .i64 11]) ∧ Below w.heap.size w w'
theorem headtold_no {w w' : World} {b : List (BitVec 8)} (h : isHead b = false) (k : Below w.heap.size w w') : HeadTold w b (.returned (.tuple #[.agg (recW rec0 (.slice none 0 0)), .int .i64 11])) w' := by
  unfold HeadTold; rw [h, if_neg (by decide)]; exact ⟨rfl, k⟩
/- the puts while they are told -/
def atK (q : List (BitVec 8)) (i : Nat) : Int := ((q.getD (9 + i) 0#8).toNat : Int)
def lz (q : List (BitVec 8)) (n k : Nat) : List (Int × List (BitVec 8)) := (List.range n).map fun i => (if i < k then atK q i else 0, zer 32)
theorem lz_len (q : List (BitVec 8)) (n k : Nat) : (lz q n k).length = n := by simp [lz]
theorem lz_32 (q : List (BitVec 8)) (n k : Nat) : ∀ x ∈ lz q n k, x.2.length = 32 := by
  intro x hx
  obtain ⟨i, _, rfl⟩ := List.mem_map.1 hx
  exact length_zer 32
theorem lz_0 (q : List (BitVec 8)) (n : Nat) : List.replicate n ((0 : Int), zer 32) = lz q n 0 := by
  apply List.ext_getElem (by simp [lz])
  intro i h1 h2
  simp [lz]
theorem lz_at (q : List (BitVec 8)) (n k : Nat) (h : k < n) : (lz q n k)[k]? = some (0, zer 32) := by simp [lz, h]
theorem lz_set (q : List (BitVec 8)) (n k : Nat) (_ : k < n) : (lz q n k).set k (atK q k, zer 32) = lz q n (k + 1) := by
  apply List.ext_getElem (by simp [lz])
  intro i h1 h2
  rw [List.getElem_set]
  simp only [lz, List.getElem_map, List.getElem_range]
  by_cases e : k = i
  · subst e; rw [if_pos rfl, if_pos (by omega)]
  · rw [if_neg e]
    by_cases hlt : i < k
    · rw [if_pos hlt, if_pos (by omega)]
    · rw [if_neg hlt, if_neg (by omega)]
theorem lz_all (q : List (BitVec 8)) (n : Nat) : lz q n n = ((List.range n).map (atK q)).map fun i => (i, zer 32) := by
  unfold lz
  rw [List.map_map]
  apply List.map_congr_left
  intro i hi
  rw [if_pos (List.mem_range.1 hi)]; rfl
theorem lz_fst (q : List (BitVec 8)) (n : Nat) : (lz q n n).map (·.1) = (List.range n).map (atK q) := by rw [lz_all, List.map_map]; exact (List.map_congr_left (fun i _ => rfl)).trans (List.map_id _)
theorem atK_b (q : List (BitVec 8)) (i : Nat) : 0 ≤ atK q i ∧ atK q i < 256 := by unfold atK; have := (q.getD (9 + i) 0#8).isLt; omega
attribute [local go_sem high] eql_blk
set_option maxRecDepth 20000 in
set_option maxHeartbeats 1200000 in
theorem without_any (b : List (BitVec 8)) (w : World) (hb : b.length = 32) : Calls Try.prog 36 #[.agg (bs b)] w (HeadTold w b) := by
  have HBL := Lib.hid hb
  have hz := zeros_rw
  cases hd : decOk b with
  | false =>
    have HNO : Hid (isHead b = false) := Lib.hid (isHead_no hd)
    have C : ∀ W, Calls Try.prog 49 #[.agg (bs b)] W fun e w' => e = .returned (.tuple #[.agg (bs (zer 30)), .int .i64 11]) ∧ Below W.heap.size W w' := fun W => by
      have := sealOps.dec b W hb
      rw [show decR b = zer 30 by unfold decR; rw [hd]; rfl, show decE b = 11 by unfold decE; rw [hd]; rfl] at this
      exact this
    have HC := Lib.hid C
    have HX30 : Hid ((zer 30).length = 30) := Lib.hid (length_zer 30)
    have HS := St.nil w noF
    clear hd hb C
    go_enter Try.func36, Try.ntmps36
    go_wp2_with (first | ((with_reducible refine wpList_plain ?_ ?_); exact rfl; intro KK hKK; refine wp_st_box HS 52 (.tmp 0) rfl _ rfl (bs b) (rfl) (fun g1 W1 HSx => hKK _ _ ?_); clear hKK KK HS; have HS : St w noF [⟨g1, 52, bs b⟩] W1 := HSx; clear HSx) | ((with_reducible refine wpList_plain ?_ ?_); exact rfl; intro KK hKK; refine wp_st_alloc HS 36 (recW rec0 (.slice none 0 0)) rfl (.agg (recW rec0 (.slice none 0 0))) (by kernel_rfl) (rfl) (fun g2 W2 HSx => hKK _ _ ?_); clear hKK KK HS; have HS : St w noF [⟨g1, 52, bs b⟩, ⟨g2, 36, recW rec0 (.slice none 0 0)⟩] W2 := HSx; clear HSx) | ((with_reducible refine wpList_plain ?_ ?_); exact rfl; intro KK hKK; refine wp_st_load HS 0 0 52 (.tmp 1) rfl rfl rfl (bs b) (slab_whole _) _ Try.underlying52 rfl (size_b32 HBL.out) (hKK _ _ ?_); clear hKK KK))
    refine (HC.out _).mono ?_
    rintro e w1 ⟨rfl, hb1⟩
    have HSx := HS.same hb1
    clear HS hb1
    have HS := HSx
    clear HSx
    go_wp2_with (first | ((with_reducible refine wpList_plain ?_ ?_); exact rfl; intro KK hKK; refine wp_st_alloc HS 101 (bs (zer 30)) rfl (.agg (bs (zer 30))) (by kernel_rfl) (rfl) (fun g4 W3 HSx => hKK _ _ ?_); clear hKK KK HS; have HS : St w noF [⟨g1, 52, bs b⟩, ⟨g2, 36, recW rec0 (.slice none 0 0)⟩, ⟨g4, 101, bs (zer 30)⟩] W3 := HSx; clear HSx) | ((with_reducible refine wpList_plain ?_ ?_); exact rfl; intro KK hKK; refine wp_st_store HS 2 0 101 (.tmp 4) (.tmp 11) rfl rfl rfl (.agg (bs (zer 30))) rfl (by exact size_s30 HX30.out) (by rw [Nat.zero_add]; exact Nat.le_of_eq (same_s30 HX30.out).symm) (by exact one_bs _) (bs (zer 30)) (spl_agg _ _ _ rfl (same_s30 HX30.out)) (fun W4 HSx => hKK _ _ ?_); clear hKK KK HS; have HS : St w noF [⟨g1, 52, bs b⟩, ⟨g2, 36, recW rec0 (.slice none 0 0)⟩, ⟨g4, 101, bs (zer 30)⟩] W4 := HSx; clear HSx) | ((with_reducible refine wpList_plain ?_ ?_); exact rfl; intro KK hKK; refine wp_st_store HS 1 0 36 (.tmp 2) (.tmp 21) rfl rfl rfl (.agg #[.int .u32 0, .int .u32 0, .slice none 0 0]) rfl (by exact info_rec) (by exact Nat.le_refl 3) (by exact one_rw rec0 none 0 0) (recW rec0 (.slice none 0 0)) (spl_agg _ _ _ zeros_rw rfl) (fun W5 HSx => hKK _ _ ?_); clear hKK KK HS; have HS : St w noF [⟨g1, 52, bs b⟩, ⟨g2, 36, recW rec0 (.slice none 0 0)⟩, ⟨g4, 101, bs (zer 30)⟩] W5 := HSx; clear HSx))
    exact bodyPost_ret (v := .tuple #[.agg (recW rec0 (.slice none 0 0)), .int .i64 11]) (results_cell_tmp Try.results36 _ _ g2 36 (recW rec0 (.slice none 0 0)) (0, 0) _ rfl (HS.row 1 rfl) Try.underlying36 rfl (by exact info_rec)) rfl (headtold_no HNO.out HS.below)
  | true =>
    obtain ⟨m, hm⟩ : ∃ m, markOf b = m := ⟨_, rfl⟩
    obtain ⟨q, hq⟩ : ∃ q, bodyOf b = q := ⟨_, rfl⟩
    obtain ⟨n, hn⟩ : ∃ n, cnt b = n := ⟨_, rfl⟩
    have hql : q.length = 29 := by rw [← hq]; exact length_bodyOf hb
    have HX30 : Hid ((m :: q).length = 30) := Lib.hid (by rw [List.length_cons, hql])
    have hR : decR b = m :: q := by unfold decR; rw [hd, if_pos rfl, ← take30 hb, hm, hq]; exact pad30_full hql
    have HC : Hid (∀ W, Calls Try.prog 49 #[.agg (bs b)] W fun e w' => e = .returned (.tuple #[.agg (bs (m :: q)), .int .i64 0]) ∧ Below W.heap.size W w') := Lib.hid (fun W => by
      have := sealOps.dec b W hb
      rw [hR, show decE b = 0 by unfold decE; rw [hd]; rfl] at this
      exact this)
    have hny : n = (q.getD 8 0#8).toNat := by rw [← hn, ← hq]; rfl
    have HCK : Hid (∀ k, k < 20 → (bs (m :: q))[1 + (9 + k)]? = some (.int .u8 (atK q k))) := Lib.hid (fun k hk => by
      have := get_bs (m :: q) (1 + (9 + k)) (by rw [HX30.out]; omega)
      rw [this, Nat.add_comm 1 (9 + k)]; rfl)
    have HC8 : Hid ((bs (m :: q))[9]? = some (.int .u8 (n : Int))) := Lib.hid (by
      have := get_bs (m :: q) 9 (by rw [HX30.out]; decide)
      rw [this, hny]; rfl)
    have HAT : Hid ((List.range n).map (atK q) = atsOf b) := Lib.hid (by unfold atsOf; rw [hn, hq]; rfl)
    have HL0 : Hid (lv 1 (m :: q) = lv 0 q) := Lib.hid rfl
    have HL4 : Hid (lv 5 (m :: q) = lv 4 q) := Lib.hid rfl
    have HNUM : Hid (num ((bodyOf b).take 4) = lv 0 q ∧ num (((bodyOf b).drop 4).take 4) = lv 4 q ∧ cnt b = n) := Lib.hid ⟨by rw [hq, lv_num q 0 (by omega)]; rfl, by rw [hq, lv_num q 4 (by omega)], hn⟩
    have HS := St.nil w noF
    by_cases h5 : n ≤ 5
    case neg =>
      have HNO : Hid (isHead b = false) := Lib.hid (isHead_many (by rw [hn]; exact h5))
      have hq5 : decide ((5 : Int) < (n : Int)) = true := decide_eq_true (by omega)
      clear hd hb hm hq hn hR hny h5 hql
      go_enter Try.func36, Try.ntmps36
      go_wp2_with (first | ((with_reducible refine wpList_plain ?_ ?_); exact rfl; intro KK hKK; refine wp_st_box HS 52 (.tmp 0) rfl _ rfl (bs b) (rfl) (fun g1 W1 HSx => hKK _ _ ?_); clear hKK KK HS; have HS : St w noF [⟨g1, 52, bs b⟩] W1 := HSx; clear HSx) | ((with_reducible refine wpList_plain ?_ ?_); exact rfl; intro KK hKK; refine wp_st_alloc HS 36 (recW rec0 (.slice none 0 0)) rfl (.agg (recW rec0 (.slice none 0 0))) (by kernel_rfl) (rfl) (fun g2 W2 HSx => hKK _ _ ?_); clear hKK KK HS; have HS : St w noF [⟨g1, 52, bs b⟩, ⟨g2, 36, recW rec0 (.slice none 0 0)⟩] W2 := HSx; clear HSx) | ((with_reducible refine wpList_plain ?_ ?_); exact rfl; intro KK hKK; refine wp_st_load HS 0 0 52 (.tmp 1) rfl rfl rfl (bs b) (slab_whole _) _ Try.underlying52 rfl (size_b32 HBL.out) (hKK _ _ ?_); clear hKK KK))
      refine (HC.out _).mono ?_
      rintro e w1 ⟨rfl, hb1⟩
      have HSx := HS.same hb1
      clear HS hb1
      have HS := HSx
      clear HSx
      go_upto_region 2 with (first | ((with_reducible refine wpList_plain ?_ ?_); exact rfl; intro KK hKK; refine wp_st_alloc HS 101 (bs (zer 30)) rfl (.agg (bs (zer 30))) (by kernel_rfl) (rfl) (fun g4 W3 HSx => hKK _ _ ?_); clear hKK KK HS; have HS : St w noF [⟨g1, 52, bs b⟩, ⟨g2, 36, recW rec0 (.slice none 0 0)⟩, ⟨g4, 101, bs (zer 30)⟩] W3 := HSx; clear HSx) | ((with_reducible refine wpList_plain ?_ ?_); exact rfl; intro KK hKK; refine wp_st_store HS 2 0 101 (.tmp 4) (.tmp 11) rfl rfl rfl (.agg (bs (m :: q))) rfl (by exact size_s30 HX30.out) (by rw [Nat.zero_add]; exact Nat.le_of_eq (same_s30 HX30.out).symm) (by exact one_bs _) (bs (m :: q)) (spl_agg _ _ _ rfl (same_s30 HX30.out)) (fun W4 HSx => hKK _ _ ?_); clear hKK KK HS; have HS : St w noF [⟨g1, 52, bs b⟩, ⟨g2, 36, recW rec0 (.slice none 0 0)⟩, ⟨g4, 101, bs (m :: q)⟩] W4 := HSx; clear HSx))
      have c8 : W4.cell? ⟨g4, 9, none⟩ = some (.int .u8 (n : Int)) := (HS.row 2 rfl).get HC8.out
      go_wp2_with (first | ((with_reducible refine wpList_plain ?_ ?_); exact rfl; intro KK hKK; refine wp_st_store HS 1 0 36 (.tmp 2) (.tmp 21) rfl rfl rfl (.agg #[.int .u32 0, .int .u32 0, .slice none 0 0]) rfl (by exact info_rec) (by exact Nat.le_refl 3) (by exact one_rw rec0 none 0 0) (recW rec0 (.slice none 0 0)) (spl_agg _ _ _ zeros_rw rfl) (fun W5 HSx => hKK _ _ ?_); clear hKK KK HS; have HS : St w noF [⟨g1, 52, bs b⟩, ⟨g2, 36, recW rec0 (.slice none 0 0)⟩, ⟨g4, 101, bs (m :: q)⟩] W5 := HSx; clear HSx))
      exact bodyPost_ret (v := .tuple #[.agg (recW rec0 (.slice none 0 0)), .int .i64 11]) (results_cell_tmp Try.results36 _ _ g2 36 (recW rec0 (.slice none 0 0)) (0, 0) _ rfl (HS.row 1 rfl) Try.underlying36 rfl (by exact info_rec)) rfl (headtold_no HNO.out HS.below)
    have HHE : Hid ((goodB (atsOf b) && decide (headB (lv 0 q) (lv 4 q) (atsOf b) = b)) = isHead b) := Lib.hid (by have := head_eq hb hd (by rw [hn]; exact h5); rwa [hq] at this)
    have HN5 := Lib.hid h5
    have hq5 : decide ((5 : Int) < (n : Int)) = false := decide_eq_false (by omega)
    clear hd hb hm hq hn hR hny hql
    go_enter Try.func36, Try.ntmps36
    go_wp2_with (first | ((with_reducible refine wpList_plain ?_ ?_); exact rfl; intro KK hKK; refine wp_st_box HS 52 (.tmp 0) rfl _ rfl (bs b) (rfl) (fun g1 W1 HSx => hKK _ _ ?_); clear hKK KK HS; have HS : St w noF [⟨g1, 52, bs b⟩] W1 := HSx; clear HSx) | ((with_reducible refine wpList_plain ?_ ?_); exact rfl; intro KK hKK; refine wp_st_alloc HS 36 (recW rec0 (.slice none 0 0)) rfl (.agg (recW rec0 (.slice none 0 0))) (by kernel_rfl) (rfl) (fun g2 W2 HSx => hKK _ _ ?_); clear hKK KK HS; have HS : St w noF [⟨g1, 52, bs b⟩, ⟨g2, 36, recW rec0 (.slice none 0 0)⟩] W2 := HSx; clear HSx) | ((with_reducible refine wpList_plain ?_ ?_); exact rfl; intro KK hKK; refine wp_st_load HS 0 0 52 (.tmp 1) rfl rfl rfl (bs b) (slab_whole _) _ Try.underlying52 rfl (size_b32 HBL.out) (hKK _ _ ?_); clear hKK KK))
    refine (HC.out _).mono ?_
    rintro e w1 ⟨rfl, hb1⟩
    have HSx := HS.same hb1
    clear HS hb1
    have HS := HSx
    clear HSx
    go_upto_region 2 with (first | ((with_reducible refine wpList_plain ?_ ?_); exact rfl; intro KK hKK; refine wp_st_alloc HS 101 (bs (zer 30)) rfl (.agg (bs (zer 30))) (by kernel_rfl) (rfl) (fun g4 W3 HSx => hKK _ _ ?_); clear hKK KK HS; have HS : St w noF [⟨g1, 52, bs b⟩, ⟨g2, 36, recW rec0 (.slice none 0 0)⟩, ⟨g4, 101, bs (zer 30)⟩] W3 := HSx; clear HSx) | ((with_reducible refine wpList_plain ?_ ?_); exact rfl; intro KK hKK; refine wp_st_store HS 2 0 101 (.tmp 4) (.tmp 11) rfl rfl rfl (.agg (bs (m :: q))) rfl (by exact size_s30 HX30.out) (by rw [Nat.zero_add]; exact Nat.le_of_eq (same_s30 HX30.out).symm) (by exact one_bs _) (bs (m :: q)) (spl_agg _ _ _ rfl (same_s30 HX30.out)) (fun W4 HSx => hKK _ _ ?_); clear hKK KK HS; have HS : St w noF [⟨g1, 52, bs b⟩, ⟨g2, 36, recW rec0 (.slice none 0 0)⟩, ⟨g4, 101, bs (m :: q)⟩] W4 := HSx; clear HSx))
    have c8 : W4.cell? ⟨g4, 9, none⟩ = some (.int .u8 (n : Int)) := (HS.row 2 rfl).get HC8.out
    go_upto_region 4 with fail
    clear c8 hq5 hz
    obtain ⟨B0, hB0⟩ : ∃ B0, W4.heap.size = B0 := ⟨_, rfl⟩
    have HB0 : Hid (w.heap.size ≤ B0) := Lib.hid (by rw [← hB0]; exact HS.below.size)
    have HLT : Hid (∀ g, B0 ≤ g → ∀ bb ∈ ([⟨g1, 52, bs b⟩, ⟨g2, 36, recW rec0 (.slice none 0 0)⟩, ⟨g4, 101, bs (m :: q)⟩] : List Blk), bb.g ≠ g) := Lib.hid (fun g hg bb hb e => by
      have := HS.lt hb
      rw [hB0] at this
      omega)
    have hF0 : Wl [fun W => St w noF [⟨g1, 52, bs b⟩, ⟨g2, 36, recW rec0 (.slice none 0 0)⟩, ⟨g4, 101, bs (m :: q)⟩] W ∧ B0 ≤ W.heap.size, fun W => St w noF [⟨g1, 52, bs b⟩, ⟨g2, 36, recW rec0 (.slice none 0 0)⟩, ⟨g4, 101, bs (m :: q)⟩] W ∧ B0 ≤ W.heap.size] 0 W4.drew := ⟨HS.drew, Nat.le_of_eq hB0.symm⟩
    clear HS hB0
    refine wp_region_phas [is (.pointer (some ⟨g4, 1, none⟩)), is (.slice (some ⟨g4, 1, none⟩) 29 29), is (.int .u32 (wd (lv 0 q))), is (.pointer (some ⟨g4, 1, none⟩)), is (.slice (some ⟨g4, 5, none⟩) 25 25), is (.int .u32 (wd (lv 4 q))), is (.pointer (some ⟨g4, 1, none⟩)), is (.pointer (some ⟨g4, 9, none⟩)), is (.int .u8 (n : Int)), (fun v W => ∃ g, v = Value.slice (some ⟨g, 0, none⟩) n n ∧ Row W g 70 (pcs (lz q n 0)) ∧ B0 ≤ g), (fun v W => ∃ g, v = Value.agg (recW ⟨lv 0 q, lv 4 q, []⟩ (.slice (some ⟨g, 0, none⟩) n n)) ∧ Row W g 70 (pcs (lz q n 0)) ∧ B0 ≤ g), (fun v W => ∃ g, v = Value.pointer (some ⟨g, 0, none⟩) ∧ Row W g 36 (recW rec0 (.slice none 0 0)) ∧ B0 ≤ g), (fun v W => ∃ g k, v = Value.pointer (some ⟨g, 0, none⟩) ∧ Row W g 36 (recW ⟨lv 0 q, lv 4 q, []⟩ (.slice (some ⟨k, 0, none⟩) n n)) ∧ Row W k 70 (pcs (lz q n 0)) ∧ B0 ≤ g ∧ B0 ≤ k)] [true, true, true, true, true, true, true, true, true, false, false, false, false] [(fun W => St w noF [⟨g1, 52, bs b⟩, ⟨g2, 36, recW rec0 (.slice none 0 0)⟩, ⟨g4, 101, bs (m :: q)⟩] W ∧ B0 ≤ W.heap.size), (fun W => St w noF [⟨g1, 52, bs b⟩, ⟨g2, 36, recW rec0 (.slice none 0 0)⟩, ⟨g4, 101, bs (m :: q)⟩] W ∧ B0 ≤ W.heap.size)] [false, false, false, false, false, false, false, false, false, false, false, false, true] [some 0, some 0, some 0, some 0, some 0, some 0, some 0, some 0, some 0, some 0, some 0, some 0, some 0] [none, none, none, none, none, none, none, none, none, none, none, none, some 11] [some 22, some 23, some 24, some 25, some 26, some 27, some 28, some 29, some 30, some 31, some 32, some 6, none] 13 1 (fun _ => true) rfl rfl (by kernel_rfl) (by kernel_rfl) (by kernel_rfl) (by kernel_rfl) (by kernel_rfl) ?_ ?_ ?_ ?_ ?_ ?_
    · repeat first | exact wok_nil | refine wok_cons (by first | exact fun _ _ h k => ⟨h.1.same k, Nat.le_trans h.2 k.size⟩) ?_
    · repeat first | exact vok_nil | refine vok_rig (by first | exact fun _ _ _ h => h) ?_ | refine vok_soft (by first | exact fun _ _ _ h _ => h | exact fun _ _ _ h k => by obtain ⟨g, j, h1, h2, h3, h4⟩ := h; exact ⟨g, j, h1, h2.call k, h3.call k, h4⟩ | exact fun _ _ _ h k => ⟨h.choose, h.choose_spec.1, h.choose_spec.2.1.call k, h.choose_spec.2.2⟩) ?_
    · exact hF0
    · repeat first | exact all_end (by decide) | refine all_cons (by first | exact rfl | exact ⟨rfl, fun _ _ h => Or.inl h⟩ | exact ⟨rfl, fun _ _ h => Or.inr ⟨h, rfl⟩⟩) ?_
    · refine alla_old rfl (step_mild 0 rfl rfl rfl (fun a x W hout hin hP => ?_)) ?_
      · have e4 : a.tmps[4]? = some (.pointer (some ⟨g4, 0, none⟩)) := (hout 4 (by kernel_rfl)).trans rfl
        clear hin hout
        intro K Q hK
        go_simp
        exact hK _ _ ⟨Same.refl _, rfl⟩
      refine alla_old rfl (step_mild 0 rfl rfl rfl (fun a x W hout hin hP => ?_)) ?_
      · have e22 := hin.is 0 22 (by kernel_rfl) (by decide) (by kernel_rfl) (by kernel_rfl) _ rfl
        clear hin hout
        intro K Q hK
        go_simp
        exact hK _ _ ⟨Same.refl _, rfl⟩
      refine alla_old rfl (step_mild 0 rfl rfl rfl (fun a x W hout hin hP => ?_)) ?_
      · have e23 := hin.is 1 23 (by kernel_rfl) (by decide) (by kernel_rfl) (by kernel_rfl) _ rfl
        have C := long_any g4 1 29 29 101 (m :: q) W (hP.1.row 2 rfl) (by rw [HX30.out]; decide) (by decide) (Nat.le_refl _)
        rw [HL0.out] at C
        clear hP
        clear hin hout
        intro K Q hK
        go_simp
        refine C.mono ?_
        rintro e W' ⟨rfl, hb⟩
        exact hK _ _ ⟨hb, rfl⟩
      refine alla_old rfl (step_mild 0 rfl rfl rfl (fun a x W hout hin hP => ?_)) ?_
      · have e4 : a.tmps[4]? = some (.pointer (some ⟨g4, 0, none⟩)) := (hout 4 (by kernel_rfl)).trans rfl
        clear hin hout
        intro K Q hK
        go_simp
        exact hK _ _ ⟨Same.refl _, rfl⟩
      refine alla_old rfl (step_mild 0 rfl rfl rfl (fun a x W hout hin hP => ?_)) ?_
      · have e25 := hin.is 3 25 (by kernel_rfl) (by decide) (by kernel_rfl) (by kernel_rfl) _ rfl
        clear hin hout
        intro K Q hK
        go_simp
        exact hK _ _ ⟨Same.refl _, rfl⟩
      refine alla_old rfl (step_mild 0 rfl rfl rfl (fun a x W hout hin hP => ?_)) ?_
      · have e26 := hin.is 4 26 (by kernel_rfl) (by decide) (by kernel_rfl) (by kernel_rfl) _ rfl
        have C := long_any g4 5 25 25 101 (m :: q) W (hP.1.row 2 rfl) (by rw [HX30.out]; decide) (by decide) (Nat.le_refl _)
        rw [HL4.out] at C
        clear hP
        clear hin hout
        intro K Q hK
        go_simp
        refine C.mono ?_
        rintro e W' ⟨rfl, hb⟩
        exact hK _ _ ⟨hb, rfl⟩
      refine alla_old rfl (step_mild 0 rfl rfl rfl (fun a x W hout hin hP => ?_)) ?_
      · have e4 : a.tmps[4]? = some (.pointer (some ⟨g4, 0, none⟩)) := (hout 4 (by kernel_rfl)).trans rfl
        clear hin hout
        intro K Q hK
        go_simp
        exact hK _ _ ⟨Same.refl _, rfl⟩
      refine alla_old rfl (step_mild 0 rfl rfl rfl (fun a x W hout hin hP => ?_)) ?_
      · have e28 := hin.is 6 28 (by kernel_rfl) (by decide) (by kernel_rfl) (by kernel_rfl) _ rfl
        clear hin hout
        intro K Q hK
        go_simp
        exact hK _ _ ⟨Same.refl _, rfl⟩
      refine alla_old rfl (step_mild 0 rfl rfl rfl (fun a x W hout hin hP => ?_)) ?_
      · have e29 := hin.is 7 29 (by kernel_rfl) (by decide) (by kernel_rfl) (by kernel_rfl) _ rfl
        have hc : W.cell? ⟨g4, 9, none⟩ = some (.int .u8 (n : Int)) := (hP.1.row 2 rfl).get HC8.out
        clear hP
        clear hin hout
        intro K Q hK
        go_simp
        exact hK _ _ ⟨Same.refl _, rfl⟩
      refine alla_old rfl (step_mild 0 rfl rfl rfl (fun a x W hout hin hP => ?_)) ?_
      · have e30 := hin.is 8 30 (by kernel_rfl) (by decide) (by kernel_rfl) (by kernel_rfl) _ rfl
        have hbse := hP.2
        clear hin hout
        intro K Q hK
        exact wp_make_puts (.tmp 30) (.tmp 30) rfl .u8 .u8 n HN5.out (eval_of_get e30) (eval_of_get e30) (by rw [lz_0 q n]; exact hK _ _ ⟨Same.alloc _ _, W.heap.size, rfl, Row.fresh _ _ _, hbse⟩)
      refine alla_old rfl (step_mild 0 rfl rfl rfl (fun a x W hout hin hP => ?_)) ?_
      · have e24 := hin.is 2 24 (by kernel_rfl) (by decide) (by kernel_rfl) (by kernel_rfl) _ rfl
        have e27 := hin.is 5 27 (by kernel_rfl) (by decide) (by kernel_rfl) (by kernel_rfl) _ rfl
        obtain ⟨v31, e31, hv31⟩ := hin.get 9 31 (by kernel_rfl) (by decide) (by kernel_rfl) (.inr ⟨rfl, by kernel_rfl⟩)
        obtain ⟨g, hg, rP, hbP⟩ := hv31
        rw [hg] at e31
        clear hg hP
        generalize lv 0 q = n1 at *
        generalize lv 4 q = n2 at *
        clear hin hout
        intro K Q hK
        go_simp
        exact hK _ _ ⟨Same.refl _, g, rfl, rP, hbP⟩
      refine alla_old rfl (step_mild 0 rfl rfl rfl (fun a x W hout hin hP => ?_)) ?_
      · have hbse := hP.2
        have hz := zeros_rw
        clear hP
        clear hin hout
        intro K Q hK
        go_simp
        exact hK _ _ ⟨Same.alloc _ _, _, rfl, Row.fresh _ _ _, hbse⟩
      refine alla_wild 0 rfl rfl rfl (fun a x W hout hin hP => ?_) ?_
      · obtain ⟨hw11, hx11⟩ := hin 11 (by kernel_rfl) (by decide)
        have hw11 := hw11 (.inr ⟨rfl, by kernel_rfl⟩)
        have hx11 := hx11 6 (by kernel_rfl)
        obtain ⟨v32, e32, hv32⟩ := hin.get 10 32 (by kernel_rfl) (by decide) (by kernel_rfl) (.inr ⟨rfl, by kernel_rfl⟩)
        obtain ⟨g6, hg6, r6, hb6⟩ := hw11
        rw [hg6] at hx11
        obtain ⟨gP, hgP, rP, hbP⟩ := hv32
        rw [hgP] at e32
        clear hin hout
        intro K Q hK
        refine wp_store_row 36 (.tmp 6) (.tmp 32) rfl g6 (recW ⟨lv 0 q, lv 4 q, []⟩ (.slice (some ⟨gP, 0, none⟩) n n)) (eval_of_get hx11) (eval_of_get e32) 36 (recW rec0 (.slice none 0 0)) r6 (by exact info_rec) rfl (one_rw _ _ _ _) ?_
        exact hK (x 11) _ ⟨⟨hP.1.far (grown_setRow _ _ _) (Nat.le_trans HB0.out hb6) (HLT.out g6 hb6), Nat.le_trans hP.2 (grown_setRow W g6 _).size⟩, ⟨g6, gP, hg6, r6.setRow _, rP.setRow_far (row_ne rP r6 (by decide)) _, hb6, hbP⟩, al_one rfl rfl⟩
      exact all_end (by decide)
    · intro x W hP hV hal
      obtain ⟨g6, gP, h8, r6, rP, hb6, hbP⟩ := hV 12 (by decide) (.inr (by kernel_rfl))
      have h7 : x 11 = .pointer (some ⟨g6, 0, none⟩) := (hal 12 (by decide) 11 rfl).symm.trans h8
      have HS6 := hP.1.join r6 (Nat.le_trans HB0.out hb6) (HLT.out g6 hb6)
      have HS7 : St w noF [⟨g1, 52, bs b⟩, ⟨g2, 36, recW rec0 (.slice none 0 0)⟩, ⟨g4, 101, bs (m :: q)⟩, ⟨g6, 36, recW ⟨lv 0 q, lv 4 q, []⟩ (.slice (some ⟨gP, 0, none⟩) n n)⟩, ⟨gP, 70, pcs (lz q n 0)⟩] W := HS6.join rP (Nat.le_trans HB0.out hbP) (fun b hb => by
        rcases List.mem_append.1 hb with hb | hb
        · exact HLT.out gP hbP b hb
        · rw [List.mem_singleton] at hb; subst hb; exact row_ne r6 rP (by decide))
      clear hV hP hal h8 r6 rP hb6 hbP HS6
      simp only [putL, Act.put, List.setIfInBounds_toArray, List.set_cons_succ, List.set_cons_zero, h7]
      simp only [Nat.zero_add, Nat.reduceAdd]
      refine wpAnyH_done (by kernel_rfl) ?_ _
      clear h7
      have c2 : W.cell? ⟨g6, 2, none⟩ = some (.slice (some ⟨gP, 0, none⟩) n n) := (HS7.row 3 rfl).get rfl
      have HS8 := Lib.hid HS7
      clear HS7
      go_upto_region 6 with fail
      clear c2
      go_loopw [36] (fun i wr => ∃ k : Nat, k ≤ n ∧ i = .int .i64 k ∧ St w noF [⟨g1, 52, bs b⟩, ⟨g2, 36, recW rec0 (.slice none 0 0)⟩, ⟨g4, 101, bs (m :: q)⟩, ⟨g6, 36, recW ⟨lv 0 q, lv 4 q, []⟩ (.slice (some ⟨gP, 0, none⟩) n n)⟩, ⟨gP, 70, pcs (lz q n k)⟩] wr) (fun i _ => n - (intOf i).toNat)
      case atStart => exact ⟨0, by omega, rfl, HS8.out⟩
      case round =>
        clear HS8
        obtain ⟨k, hk, rfl, HS⟩ := hrel
        by_cases hlt : k < n
        · have hk0 : (0 : Int) ≤ (k : Int) := by omega
          have hk1 : (k : Int) < (n : Int) := by omega
          go_upto_region 8 with fail
          have hF0 : Wl [fun W => St w noF [⟨g1, 52, bs b⟩, ⟨g2, 36, recW rec0 (.slice none 0 0)⟩, ⟨g4, 101, bs (m :: q)⟩, ⟨g6, 36, recW ⟨lv 0 q, lv 4 q, []⟩ (.slice (some ⟨gP, 0, none⟩) n n)⟩, ⟨gP, 70, pcs (lz q n k)⟩] W, fun W => St w noF [⟨g1, 52, bs b⟩, ⟨g2, 36, recW rec0 (.slice none 0 0)⟩, ⟨g4, 101, bs (m :: q)⟩, ⟨g6, 36, recW ⟨lv 0 q, lv 4 q, []⟩ (.slice (some ⟨gP, 0, none⟩) n n)⟩, ⟨gP, 70, pcs (lz q n (k + 1))⟩] W] 0 (World.drew _) := HS.drew
          clear HS
          have HKN := Lib.hid hlt
          refine wp_region_phs [is (.pointer (some ⟨g6, 2, none⟩)), is (.slice (some ⟨gP, 0, none⟩) n n), is (.int .i64 (k : Int)), is (.int .i64 (k : Int)), is (.int .i64 (9 + (k : Int))), is (.pointer (some ⟨g4, 1, none⟩)), is (.pointer (some ⟨g4, 1 + (9 + k), none⟩)), is (.int .u8 (atK q k)), is (.int .i64 (atK q k)), is (.pointer (some ⟨gP, k * 33, none⟩)), is (.pointer (some ⟨gP, k * 33, none⟩)), anyV] [true, true, true, true, true, true, true, true, true, true, true, true] [(fun W => St w noF [⟨g1, 52, bs b⟩, ⟨g2, 36, recW rec0 (.slice none 0 0)⟩, ⟨g4, 101, bs (m :: q)⟩, ⟨g6, 36, recW ⟨lv 0 q, lv 4 q, []⟩ (.slice (some ⟨gP, 0, none⟩) n n)⟩, ⟨gP, 70, pcs (lz q n k)⟩] W), (fun W => St w noF [⟨g1, 52, bs b⟩, ⟨g2, 36, recW rec0 (.slice none 0 0)⟩, ⟨g4, 101, bs (m :: q)⟩, ⟨g6, 36, recW ⟨lv 0 q, lv 4 q, []⟩ (.slice (some ⟨gP, 0, none⟩) n n)⟩, ⟨gP, 70, pcs (lz q n (k + 1))⟩] W)] [false, false, false, false, false, false, false, false, false, false, false, true] [some 0, some 0, some 0, some 0, some 0, some 0, some 0, some 0, some 0, some 0, some 0, some 0] [some 39, some 40, some 41, some 42, some 43, some 44, some 45, some 46, some 47, some 48, some 49, none] 12 1 (fun _ => true) rfl rfl (by kernel_rfl) (by kernel_rfl) (by kernel_rfl) (by kernel_rfl) ?_ ?_ ?_ ?_ ?_ ?_
          · repeat first | exact wok_nil | refine wok_cons (by first | exact fun _ _ h k => h.same k) ?_
          · repeat first | exact vok_nil | refine vok_rig (by first | exact fun _ _ _ h => h) ?_ | refine vok_soft (by first | exact fun _ _ _ h _ => h) ?_
          · exact hF0
          · repeat first | exact all_end (by decide) | refine all_cons (by first | exact rfl | exact ⟨rfl, fun _ _ h => Or.inl h⟩ | exact ⟨rfl, fun _ _ h => Or.inr ⟨h, rfl⟩⟩) ?_
          · refine allp_mild 0 rfl rfl rfl (fun a x W hout hin hP => ?_) ?_
            · have e6 : a.tmps[6]? = some (.pointer (some ⟨g6, 0, none⟩)) := (hout 6 (by kernel_rfl)).trans rfl
              clear hin hout
              intro K Q hK
              go_simp
              exact hK _ _ ⟨Same.refl _, rfl⟩
            refine allp_mild 0 rfl rfl rfl (fun a x W hout hin hP => ?_) ?_
            · have e39 := hin.is 0 39 (by kernel_rfl) (by decide) (by kernel_rfl) (by kernel_rfl) _ rfl
              have hc : W.cell? ⟨g6, 2, none⟩ = some (.slice (some ⟨gP, 0, none⟩) n n) := (hP.row 3 rfl).get rfl
              clear hP
              clear hin hout
              intro K Q hK
              go_simp
              exact hK _ _ ⟨Same.refl _, rfl⟩
            refine allp_mild 0 rfl rfl rfl (fun a x W hout hin hP => ?_) ?_
            · have e7 : a.tmps[7]? = some (.int .i64 (k : Int)) := (hout 7 (by kernel_rfl)).trans rfl
              exact does_move rfl e7 ⟨Same.refl _, rfl⟩
            refine allp_mild 0 rfl rfl rfl (fun a x W hout hin hP => ?_) ?_
            · have e7 : a.tmps[7]? = some (.int .i64 (k : Int)) := (hout 7 (by kernel_rfl)).trans rfl
              exact does_move rfl e7 ⟨Same.refl _, rfl⟩
            refine allp_mild 0 rfl rfl rfl (fun a x W hout hin hP => ?_) ?_
            · have e42 := hin.is 3 42 (by kernel_rfl) (by decide) (by kernel_rfl) (by kernel_rfl) _ rfl
              have e9 : IntKind.i64.wrap (9 + (k : Int)) = 9 + (k : Int) := i64_id _ (by omega) (by have := HN5.out; omega)
              clear hin hout
              intro K Q hK
              go_simp
              exact hK _ _ ⟨Same.refl _, rfl⟩
            refine allp_mild 0 rfl rfl rfl (fun a x W hout hin hP => ?_) ?_
            · have e4 : a.tmps[4]? = some (.pointer (some ⟨g4, 0, none⟩)) := (hout 4 (by kernel_rfl)).trans rfl
              clear hin hout
              intro K Q hK
              go_simp
              exact hK _ _ ⟨Same.refl _, rfl⟩
            refine allp_mild 0 rfl rfl rfl (fun a x W hout hin hP => ?_) ?_
            · have e44 := hin.is 5 44 (by kernel_rfl) (by decide) (by kernel_rfl) (by kernel_rfl) _ rfl
              have e43 := hin.is 4 43 (by kernel_rfl) (by decide) (by kernel_rfl) (by kernel_rfl) _ rfl
              have hi1 : (9 : Int) + (k : Int) < 29 := by have := HN5.out; omega
              have hi0 : (0 : Int) ≤ 9 + (k : Int) := by omega
              have hi3 : ((9 : Int) + (k : Int)).toNat = 9 + k := by omega
              clear hin hout
              intro K Q hK
              go_simp
              exact hK _ _ ⟨Same.refl _, rfl⟩
            refine allp_mild 0 rfl rfl rfl (fun a x W hout hin hP => ?_) ?_
            · have e45 := hin.is 6 45 (by kernel_rfl) (by decide) (by kernel_rfl) (by kernel_rfl) _ rfl
              have hc : W.cell? ⟨g4, 1 + (9 + k), none⟩ = some (.int .u8 (atK q k)) := (hP.row 2 rfl).get (HCK.out k (by have := HN5.out; omega))
              clear hP
              clear hin hout
              intro K Q hK
              go_simp
              exact hK _ _ ⟨Same.refl _, rfl⟩
            refine allp_mild 0 rfl rfl rfl (fun a x W hout hin hP => ?_) ?_
            · have e46 := hin.is 7 46 (by kernel_rfl) (by decide) (by kernel_rfl) (by kernel_rfl) _ rfl
              have hcv : IntKind.i64.wrap (atK q k) = atK q k := i64_id _ (atK_b q k).1 (by have := (atK_b q k).2; omega)
              clear hin hout
              intro K Q hK
              go_simp
              exact hK _ _ ⟨Same.refl _, rfl⟩
            refine allp_mild 0 rfl rfl rfl (fun a x W hout hin hP => ?_) ?_
            · have e40 := hin.is 1 40 (by kernel_rfl) (by decide) (by kernel_rfl) (by kernel_rfl) _ rfl
              have e41 := hin.is 2 41 (by kernel_rfl) (by decide) (by kernel_rfl) (by kernel_rfl) _ rfl
              clear hin hout
              intro K Q hK
              go_simp
              exact hK _ _ ⟨Same.refl _, rfl⟩
            refine allp_mild 0 rfl rfl rfl (fun a x W hout hin hP => ?_) ?_
            · have e48 := hin.is 9 48 (by kernel_rfl) (by decide) (by kernel_rfl) (by kernel_rfl) _ rfl
              clear hin hout
              intro K Q hK
              go_simp
              exact hK _ _ ⟨Same.refl _, rfl⟩
            refine allp_wild 0 rfl rfl rfl (fun a x W hout hin hP => ?_) ?_
            · have e49 := hin.is 10 49 (by kernel_rfl) (by decide) (by kernel_rfl) (by kernel_rfl) _ rfl
              have e47 := hin.is 8 47 (by kernel_rfl) (by decide) (by kernel_rfl) (by kernel_rfl) _ rfl
              clear hin hout
              intro K Q hK
              exact wp_st_put hP 4 (k * 33) 3 (.tmp 49) (.tmp 47) rfl rfl (eval_of_get e49) (.int .i64 (atK q k)) (eval_of_get e47) (by kernel_rfl) rfl rfl (by rw [size_pcs (lz_32 q n k), lz_len]; have := HKN.out; omega) (pcs (lz q n (k + 1))) (by rw [pcs_at (lz_32 q n k) (lz_at q n k HKN.out) (atK q k), lz_set q n k HKN.out]) (fun W' HSx => hK _ _ ⟨HSx, trivial⟩)
            exact all_end (by decide)
          · intro x W hP hV
            have HS9 := Lib.hid (show St w noF [⟨g1, 52, bs b⟩, ⟨g2, 36, recW rec0 (.slice none 0 0)⟩, ⟨g4, 101, bs (m :: q)⟩, ⟨g6, 36, recW ⟨lv 0 q, lv 4 q, []⟩ (.slice (some ⟨gP, 0, none⟩) n n)⟩, ⟨gP, 70, pcs (lz q n (k + 1))⟩] W from hP)
            clear hP hV
            simp only [putL, Act.put, List.setIfInBounds_toArray, List.set_cons_succ, List.set_cons_zero]
            refine wpAnyH_done (by kernel_rfl) ?_ _
            go_wp2_with fail
            exact ⟨⟨k + 1, by omega, by go_num, HS9.out⟩, by simp [intOf] <;> omega⟩
        · obtain rfl : k = n := by omega
          have hq : decide ((k : Int) < (k : Int)) = false := decide_eq_false (by omega)
          clear hlt
          go_upto_region 10 with fail
          clear hq
          have HPA : Hid (∀ W, St w noF [⟨g1, 52, bs b⟩, ⟨g2, 36, recW rec0 (.slice none 0 0)⟩, ⟨g4, 101, bs (m :: q)⟩, ⟨g6, 36, recW ⟨lv 0 q, lv 4 q, []⟩ (.slice (some ⟨gP, 0, none⟩) k k)⟩, ⟨gP, 70, pcs (lz q k k)⟩] W → PutsAt W (.slice (some ⟨gP, 0, none⟩) k k) (lz q k k)) := Lib.hid (fun W h => by
            have := puts_pcs (c := k) (h.row 4 rfl) (by rw [lz_len]; exact Nat.le_refl _) (fun x hx => ⟨lz_32 q k k x hx, by
              obtain ⟨i, _, rfl⟩ := List.mem_map.1 hx
              have := atK_b q i
              dsimp only
              split <;> omega⟩)
            rwa [lz_len] at this)
          have HF : Hid ((lz q k k).map (·.1) = atsOf b) := Lib.hid (by rw [lz_fst, HAT.out])
          cases hg : goodB (atsOf b) with
          | false =>
            have HNO : Hid (isHead b = false) := Lib.hid (by rw [← HHE.out, hg]; rfl)
            have HG := Lib.hid hg
            have hF0 : Wl [fun W => St w noF [⟨g1, 52, bs b⟩, ⟨g2, 36, recW rec0 (.slice none 0 0)⟩, ⟨g4, 101, bs (m :: q)⟩, ⟨g6, 36, recW ⟨lv 0 q, lv 4 q, []⟩ (.slice (some ⟨gP, 0, none⟩) k k)⟩, ⟨gP, 70, pcs (lz q k k)⟩] W] 0 (World.drew _) := HS.drew
            clear HS hg
            refine wp_region_phs [is (.pointer (some ⟨g6, 2, none⟩)), is (.slice (some ⟨gP, 0, none⟩) k k), is (.bool false), is (.bool true), is (.bool true), is undef, is undef, is undef, is undef, is (.bool true)] [true, true, true, true, true, true, true, true, true, true] [(fun W => St w noF [⟨g1, 52, bs b⟩, ⟨g2, 36, recW rec0 (.slice none 0 0)⟩, ⟨g4, 101, bs (m :: q)⟩, ⟨g6, 36, recW ⟨lv 0 q, lv 4 q, []⟩ (.slice (some ⟨gP, 0, none⟩) k k)⟩, ⟨gP, 70, pcs (lz q k k)⟩] W)] [false, false, false, false, false, false, false, false, false, false] [some 0, some 0, some 0, some 0, some 0, some 0, some 0, some 0, some 0, some 0] [some 51, some 52, some 53, some 54, some 55, some 56, some 57, some 58, some 59, some 60] 10 0 (fun i => !([5, 6, 7, 8] : List Nat).contains i) rfl rfl (by kernel_rfl) (by kernel_rfl) (by kernel_rfl) (by kernel_rfl) ?_ ?_ ?_ ?_ ?_ ?_
            · repeat first | exact wok_nil | refine wok_cons (by first | exact fun _ _ h k => h.same k) ?_
            · repeat first | exact vok_nil | refine vok_rig (by first | exact fun _ _ _ h => h) ?_ | refine vok_soft (by first | exact fun _ _ _ h _ => h) ?_
            · exact hF0
            · repeat first | exact all_end (by decide) | refine all_cons (by first | exact rfl | exact ⟨rfl, fun _ _ h => Or.inl h⟩ | exact ⟨rfl, fun _ _ h => Or.inr ⟨h, rfl⟩⟩) ?_
            · refine allp_mild 0 rfl rfl rfl (fun a x W hout hin hP => ?_) ?_
              · have e6 : a.tmps[6]? = some (.pointer (some ⟨g6, 0, none⟩)) := (hout 6 (by kernel_rfl)).trans rfl
                clear hin hout
                intro K Q hK
                go_simp
                exact hK _ _ ⟨Same.refl _, rfl⟩
              refine allp_mild 0 rfl rfl rfl (fun a x W hout hin hP => ?_) ?_
              · have e51 := hin.is 0 51 (by kernel_rfl) (by decide) (by kernel_rfl) (by kernel_rfl) _ rfl
                have hc : W.cell? ⟨g6, 2, none⟩ = some (.slice (some ⟨gP, 0, none⟩) k k) := (hP.row 3 rfl).get rfl
                clear hP
                clear hin hout
                intro K Q hK
                go_simp
                exact hK _ _ ⟨Same.refl _, rfl⟩
              refine allp_mild 0 rfl rfl rfl (fun a x W hout hin hP => ?_) ?_
              · have e52 := hin.is 1 52 (by kernel_rfl) (by decide) (by kernel_rfl) (by kernel_rfl) _ rfl
                have C := walgood_any (lz q k k) _ W (HPA.out W hP) (by rw [lz_len]; have := HN5.out; unfold maxLen; omega)
                rw [HF.out, HG.out] at C
                clear hP
                clear hin hout
                intro K Q hK
                go_simp
                refine C.mono ?_
                rintro e W' ⟨rfl, hb⟩
                exact hK _ _ ⟨hb, rfl⟩
              refine allp_mild 0 rfl rfl rfl (fun a x W hout hin hP => ?_) ?_
              · have e53 := hin.is 2 53 (by kernel_rfl) (by decide) (by kernel_rfl) (by kernel_rfl) _ rfl
                exact does_not rfl e53 ⟨Same.refl _, rfl⟩
              refine allp_mild 0 rfl rfl rfl (fun a x W hout hin hP => ?_) ?_
              · have e54 := hin.is 3 54 (by kernel_rfl) (by decide) (by kernel_rfl) (by kernel_rfl) _ rfl
                exact does_move rfl e54 ⟨Same.refl _, rfl⟩
              refine allp_skip rfl rfl (fun _ => rfl) ?_
              refine allp_skip rfl rfl (fun _ => rfl) ?_
              refine allp_skip rfl rfl (fun _ => rfl) ?_
              refine allp_skip rfl rfl (fun _ => rfl) ?_
              refine allp_mild 0 rfl rfl rfl (fun a x W hout hin hP => ?_) ?_
              · have e55 := hin.is 4 55 (by kernel_rfl) (by decide) (by kernel_rfl) (by kernel_rfl) _ rfl
                have e59 := hin.is 8 59 (by kernel_rfl) (by decide) (by kernel_rfl) (by kernel_rfl) _ rfl
                exact does_pick rfl e55 ⟨Same.refl _, rfl⟩
              exact all_end (by decide)
            · intro x W hP hV
              have HS : St w noF [⟨g1, 52, bs b⟩, ⟨g2, 36, recW rec0 (.slice none 0 0)⟩, ⟨g4, 101, bs (m :: q)⟩, ⟨g6, 36, recW ⟨lv 0 q, lv 4 q, []⟩ (.slice (some ⟨gP, 0, none⟩) k k)⟩, ⟨gP, 70, pcs (lz q k k)⟩] W := hP
              have hlast : x 9 = .bool true := hV 9 (by decide) (.inl (by kernel_rfl))
              clear hP hV
              simp only [putL, Act.put, List.setIfInBounds_toArray, List.set_cons_succ, List.set_cons_zero, hlast]
              refine wpAnyH_done (by kernel_rfl) ?_ _
              clear hlast
              go_wp2_with (first | ((with_reducible refine wpList_plain ?_ ?_); exact rfl; intro KK hKK; refine wp_st_store HS 1 0 36 (.tmp 2) (.tmp 61) rfl rfl rfl (.agg #[.int .u32 0, .int .u32 0, .slice none 0 0]) rfl (by exact info_rec) (by exact Nat.le_refl 3) (by exact one_rw rec0 none 0 0) (recW rec0 (.slice none 0 0)) (spl_agg _ _ _ zeros_rw rfl) (fun W61 HSx => hKK _ _ ?_); clear hKK KK HS; have HS : St w noF [⟨g1, 52, bs b⟩, ⟨g2, 36, recW rec0 (.slice none 0 0)⟩, ⟨g4, 101, bs (m :: q)⟩, ⟨g6, 36, recW ⟨lv 0 q, lv 4 q, []⟩ (.slice (some ⟨gP, 0, none⟩) k k)⟩, ⟨gP, 70, pcs (lz q k k)⟩] W61 := HSx; clear HSx))
              exact bodyPost_ret (v := .tuple #[.agg (recW rec0 (.slice none 0 0)), .int .i64 11]) (results_cell_tmp Try.results36 _ _ g2 36 (recW rec0 (.slice none 0 0)) (0, 0) _ rfl (HS.row 1 rfl) Try.underlying36 rfl (by exact info_rec)) rfl (headtold_no HNO.out HS.below)
          | true =>
            have HG := Lib.hid hg
            obtain ⟨H, hH⟩ : ∃ H, headB (lv 0 q) (lv 4 q) (atsOf b) = H := ⟨_, rfl⟩
            have HHL : Hid (H.length = 32) := Lib.hid (by rw [← hH]; exact length_headB (by rw [← HF.out, List.length_map, lz_len]; exact HN5.out))
            have HHE2 : Hid (decide (H = b) = isHead b) := Lib.hid (by rw [← HHE.out, hg, Bool.true_and, hH])
            have HCH : Hid (∀ W, St w noF [⟨g1, 52, bs b⟩, ⟨g2, 36, recW rec0 (.slice none 0 0)⟩, ⟨g4, 101, bs (m :: q)⟩, ⟨g6, 36, recW ⟨lv 0 q, lv 4 q, []⟩ (.slice (some ⟨gP, 0, none⟩) k k)⟩, ⟨gP, 70, pcs (lz q k k)⟩] W → Calls Try.prog 32 #[.agg (recW ⟨lv 0 q, lv 4 q, []⟩ (.slice (some ⟨gP, 0, none⟩) k k))] W fun e w' => e = .returned (.agg (bs H)) ∧ Below W.heap.size W w') := Lib.hid (fun W h => by
              have := header_any (lv 0 q) (lv 4 q) (some ⟨gP, 0, none⟩) k (lz q k k) W (by rw [lz_len]; exact HPA.out W h) (by rw [lz_len]; exact HN5.out)
              rw [HF.out, hH, lz_len] at this
              exact this)
            clear hH hg
            by_cases hHb : H = b
            case neg =>
              have HNO : Hid (isHead b = false) := Lib.hid (by rw [← HHE2.out, decide_eq_false hHb])
              have HHB := Lib.hid hHb
              have hF0 : Wl [fun W => St w noF [⟨g1, 52, bs b⟩, ⟨g2, 36, recW rec0 (.slice none 0 0)⟩, ⟨g4, 101, bs (m :: q)⟩, ⟨g6, 36, recW ⟨lv 0 q, lv 4 q, []⟩ (.slice (some ⟨gP, 0, none⟩) k k)⟩, ⟨gP, 70, pcs (lz q k k)⟩] W] 0 (World.drew _) := HS.drew
              clear HS hHb
              refine wp_region_phs [is (.pointer (some ⟨g6, 2, none⟩)), is (.slice (some ⟨gP, 0, none⟩) k k), is (.bool true), is (.bool false), is (.bool false), is (.agg (recW ⟨lv 0 q, lv 4 q, []⟩ (.slice (some ⟨gP, 0, none⟩) k k))), is (.agg (bs H)), is (.agg (bs b)), is (.bool true), is (.bool true)] [true, true, true, true, true, true, true, true, true, true] [(fun W => St w noF [⟨g1, 52, bs b⟩, ⟨g2, 36, recW rec0 (.slice none 0 0)⟩, ⟨g4, 101, bs (m :: q)⟩, ⟨g6, 36, recW ⟨lv 0 q, lv 4 q, []⟩ (.slice (some ⟨gP, 0, none⟩) k k)⟩, ⟨gP, 70, pcs (lz q k k)⟩] W)] [false, false, false, false, false, false, false, false, false, false] [some 0, some 0, some 0, some 0, some 0, some 0, some 0, some 0, some 0, some 0] [some 51, some 52, some 53, some 54, some 55, some 56, some 57, some 58, some 59, some 60] 10 0 (fun _ => true) rfl rfl (by kernel_rfl) (by kernel_rfl) (by kernel_rfl) (by kernel_rfl) ?_ ?_ ?_ ?_ ?_ ?_
              · repeat first | exact wok_nil | refine wok_cons (by first | exact fun _ _ h k => h.same k) ?_
              · repeat first | exact vok_nil | refine vok_rig (by first | exact fun _ _ _ h => h) ?_ | refine vok_soft (by first | exact fun _ _ _ h _ => h) ?_
              · exact hF0
              · repeat first | exact all_end (by decide) | refine all_cons (by first | exact rfl | exact ⟨rfl, fun _ _ h => Or.inl h⟩ | exact ⟨rfl, fun _ _ h => Or.inr ⟨h, rfl⟩⟩) ?_
              · refine allp_mild 0 rfl rfl rfl (fun a x W hout hin hP => ?_) ?_
                · have e6 : a.tmps[6]? = some (.pointer (some ⟨g6, 0, none⟩)) := (hout 6 (by kernel_rfl)).trans rfl
                  clear hin hout
                  intro K Q hK
                  go_simp
                  exact hK _ _ ⟨Same.refl _, rfl⟩
                refine allp_mild 0 rfl rfl rfl (fun a x W hout hin hP => ?_) ?_
                · have e51 := hin.is 0 51 (by kernel_rfl) (by decide) (by kernel_rfl) (by kernel_rfl) _ rfl
                  have hc : W.cell? ⟨g6, 2, none⟩ = some (.slice (some ⟨gP, 0, none⟩) k k) := (hP.row 3 rfl).get rfl
                  clear hP
                  clear hin hout
                  intro K Q hK
                  go_simp
                  exact hK _ _ ⟨Same.refl _, rfl⟩
                refine allp_mild 0 rfl rfl rfl (fun a x W hout hin hP => ?_) ?_
                · have e52 := hin.is 1 52 (by kernel_rfl) (by decide) (by kernel_rfl) (by kernel_rfl) _ rfl
                  have C := walgood_any (lz q k k) _ W (HPA.out W hP) (by rw [lz_len]; have := HN5.out; unfold maxLen; omega)
                  rw [HF.out, HG.out] at C
                  clear hP
                  clear hin hout
                  intro K Q hK
                  go_simp
                  refine C.mono ?_
                  rintro e W' ⟨rfl, hb⟩
                  exact hK _ _ ⟨hb, rfl⟩
                refine allp_mild 0 rfl rfl rfl (fun a x W hout hin hP => ?_) ?_
                · have e53 := hin.is 2 53 (by kernel_rfl) (by decide) (by kernel_rfl) (by kernel_rfl) _ rfl
                  exact does_not rfl e53 ⟨Same.refl _, rfl⟩
                refine allp_mild 0 rfl rfl rfl (fun a x W hout hin hP => ?_) ?_
                · have e54 := hin.is 3 54 (by kernel_rfl) (by decide) (by kernel_rfl) (by kernel_rfl) _ rfl
                  exact does_move rfl e54 ⟨Same.refl _, rfl⟩
                refine allp_mild 0 rfl rfl rfl (fun a x W hout hin hP => ?_) ?_
                · have e6 : a.tmps[6]? = some (.pointer (some ⟨g6, 0, none⟩)) := (hout 6 (by kernel_rfl)).trans rfl
                  clear hin hout
                  intro K Q hK
                  exact wp_st_load hP 3 0 36 (.tmp 6) rfl rfl (eval_of_get e6) (recW ⟨lv 0 q, lv 4 q, []⟩ (.slice (some ⟨gP, 0, none⟩) k k)) (slab_whole _) _ Try.underlying36 rfl (by exact info_rec) (hK _ _ ⟨Same.refl _, rfl⟩)
                refine allp_mild 0 rfl rfl rfl (fun a x W hout hin hP => ?_) ?_
                · have e56 := hin.is 5 56 (by kernel_rfl) (by decide) (by kernel_rfl) (by kernel_rfl) _ rfl
                  have C := HCH.out W hP
                  clear hP
                  clear hin hout
                  intro K Q hK
                  go_simp
                  refine C.mono ?_
                  rintro e W' ⟨rfl, hb⟩
                  exact hK _ _ ⟨hb, rfl⟩
                refine allp_mild 0 rfl rfl rfl (fun a x W hout hin hP => ?_) ?_
                · have e1 : a.tmps[1]? = some (.pointer (some ⟨g1, 0, none⟩)) := (hout 1 (by kernel_rfl)).trans rfl
                  clear hin hout
                  intro K Q hK
                  exact wp_st_load hP 0 0 52 (.tmp 1) rfl rfl (eval_of_get e1) (bs b) (slab_whole _) _ Try.underlying52 rfl (size_b32 HBL.out) (hK _ _ ⟨Same.refl _, rfl⟩)
                refine allp_mild 0 rfl rfl rfl (fun a x W hout hin hP => ?_) ?_
                · have e57 := hin.is 6 57 (by kernel_rfl) (by decide) (by kernel_rfl) (by kernel_rfl) _ rfl
                  have e58 := hin.is 7 58 (by kernel_rfl) (by decide) (by kernel_rfl) (by kernel_rfl) _ rfl
                  have qq := eql_blk H b HHL.out HBL.out W
                  rw [decide_eq_false HHB.out] at qq
                  clear hP
                  clear hin hout
                  intro K Q hK
                  go_simp
                  exact hK _ _ ⟨Same.refl _, rfl⟩
                refine allp_mild 0 rfl rfl rfl (fun a x W hout hin hP => ?_) ?_
                · have e55 := hin.is 4 55 (by kernel_rfl) (by decide) (by kernel_rfl) (by kernel_rfl) _ rfl
                  have e59 := hin.is 8 59 (by kernel_rfl) (by decide) (by kernel_rfl) (by kernel_rfl) _ rfl
                  exact does_pick rfl e55 ⟨Same.refl _, eval_of_get e59⟩
                exact all_end (by decide)
              · intro x W hP hV
                have HS : St w noF [⟨g1, 52, bs b⟩, ⟨g2, 36, recW rec0 (.slice none 0 0)⟩, ⟨g4, 101, bs (m :: q)⟩, ⟨g6, 36, recW ⟨lv 0 q, lv 4 q, []⟩ (.slice (some ⟨gP, 0, none⟩) k k)⟩, ⟨gP, 70, pcs (lz q k k)⟩] W := hP
                have hlast : x 9 = .bool true := hV 9 (by decide) (.inl (by kernel_rfl))
                clear hP hV
                simp only [putL, Act.put, List.setIfInBounds_toArray, List.set_cons_succ, List.set_cons_zero, hlast]
                refine wpAnyH_done (by kernel_rfl) ?_ _
                clear hlast
                go_wp2_with (first | ((with_reducible refine wpList_plain ?_ ?_); exact rfl; intro KK hKK; refine wp_st_store HS 1 0 36 (.tmp 2) (.tmp 61) rfl rfl rfl (.agg #[.int .u32 0, .int .u32 0, .slice none 0 0]) rfl (by exact info_rec) (by exact Nat.le_refl 3) (by exact one_rw rec0 none 0 0) (recW rec0 (.slice none 0 0)) (spl_agg _ _ _ zeros_rw rfl) (fun W61 HSx => hKK _ _ ?_); clear hKK KK HS; have HS : St w noF [⟨g1, 52, bs b⟩, ⟨g2, 36, recW rec0 (.slice none 0 0)⟩, ⟨g4, 101, bs (m :: q)⟩, ⟨g6, 36, recW ⟨lv 0 q, lv 4 q, []⟩ (.slice (some ⟨gP, 0, none⟩) k k)⟩, ⟨gP, 70, pcs (lz q k k)⟩] W61 := HSx; clear HSx))
                exact bodyPost_ret (v := .tuple #[.agg (recW rec0 (.slice none 0 0)), .int .i64 11]) (results_cell_tmp Try.results36 _ _ g2 36 (recW rec0 (.slice none 0 0)) (0, 0) _ rfl (HS.row 1 rfl) Try.underlying36 rfl (by exact info_rec)) rfl (headtold_no HNO.out HS.below)
            case pos =>
              have HYES : Hid (isHead b = true) := Lib.hid (by rw [← HHE2.out, decide_eq_true hHb])
              have HHB := Lib.hid hHb
              have hF0 : Wl [fun W => St w noF [⟨g1, 52, bs b⟩, ⟨g2, 36, recW rec0 (.slice none 0 0)⟩, ⟨g4, 101, bs (m :: q)⟩, ⟨g6, 36, recW ⟨lv 0 q, lv 4 q, []⟩ (.slice (some ⟨gP, 0, none⟩) k k)⟩, ⟨gP, 70, pcs (lz q k k)⟩] W] 0 (World.drew _) := HS.drew
              clear HS hHb
              refine wp_region_phs [is (.pointer (some ⟨g6, 2, none⟩)), is (.slice (some ⟨gP, 0, none⟩) k k), is (.bool true), is (.bool false), is (.bool false), is (.agg (recW ⟨lv 0 q, lv 4 q, []⟩ (.slice (some ⟨gP, 0, none⟩) k k))), is (.agg (bs H)), is (.agg (bs b)), is (.bool false), is (.bool false)] [true, true, true, true, true, true, true, true, true, true] [(fun W => St w noF [⟨g1, 52, bs b⟩, ⟨g2, 36, recW rec0 (.slice none 0 0)⟩, ⟨g4, 101, bs (m :: q)⟩, ⟨g6, 36, recW ⟨lv 0 q, lv 4 q, []⟩ (.slice (some ⟨gP, 0, none⟩) k k)⟩, ⟨gP, 70, pcs (lz q k k)⟩] W)] [false, false, false, false, false, false, false, false, false, false] [some 0, some 0, some 0, some 0, some 0, some 0, some 0, some 0, some 0, some 0] [some 51, some 52, some 53, some 54, some 55, some 56, some 57, some 58, some 59, some 60] 10 0 (fun _ => true) rfl rfl (by kernel_rfl) (by kernel_rfl) (by kernel_rfl) (by kernel_rfl) ?_ ?_ ?_ ?_ ?_ ?_
              · repeat first | exact wok_nil | refine wok_cons (by first | exact fun _ _ h k => h.same k) ?_
              · repeat first | exact vok_nil | refine vok_rig (by first | exact fun _ _ _ h => h) ?_ | refine vok_soft (by first | exact fun _ _ _ h _ => h) ?_
              · exact hF0
              · repeat first | exact all_end (by decide) | refine all_cons (by first | exact rfl | exact ⟨rfl, fun _ _ h => Or.inl h⟩ | exact ⟨rfl, fun _ _ h => Or.inr ⟨h, rfl⟩⟩) ?_
              · refine allp_mild 0 rfl rfl rfl (fun a x W hout hin hP => ?_) ?_
                · have e6 : a.tmps[6]? = some (.pointer (some ⟨g6, 0, none⟩)) := (hout 6 (by kernel_rfl)).trans rfl
                  clear hin hout
                  intro K Q hK
                  go_simp
                  exact hK _ _ ⟨Same.refl _, rfl⟩
                refine allp_mild 0 rfl rfl rfl (fun a x W hout hin hP => ?_) ?_
                · have e51 := hin.is 0 51 (by kernel_rfl) (by decide) (by kernel_rfl) (by kernel_rfl) _ rfl
                  have hc : W.cell? ⟨g6, 2, none⟩ = some (.slice (some ⟨gP, 0, none⟩) k k) := (hP.row 3 rfl).get rfl
                  clear hP
                  clear hin hout
                  intro K Q hK
                  go_simp
                  exact hK _ _ ⟨Same.refl _, rfl⟩
                refine allp_mild 0 rfl rfl rfl (fun a x W hout hin hP => ?_) ?_
                · have e52 := hin.is 1 52 (by kernel_rfl) (by decide) (by kernel_rfl) (by kernel_rfl) _ rfl
                  have C := walgood_any (lz q k k) _ W (HPA.out W hP) (by rw [lz_len]; have := HN5.out; unfold maxLen; omega)
                  rw [HF.out, HG.out] at C
                  clear hP
                  clear hin hout
                  intro K Q hK
                  go_simp
                  refine C.mono ?_
                  rintro e W' ⟨rfl, hb⟩
                  exact hK _ _ ⟨hb, rfl⟩
                refine allp_mild 0 rfl rfl rfl (fun a x W hout hin hP => ?_) ?_
                · have e53 := hin.is 2 53 (by kernel_rfl) (by decide) (by kernel_rfl) (by kernel_rfl) _ rfl
                  exact does_not rfl e53 ⟨Same.refl _, rfl⟩
                refine allp_mild 0 rfl rfl rfl (fun a x W hout hin hP => ?_) ?_
                · have e54 := hin.is 3 54 (by kernel_rfl) (by decide) (by kernel_rfl) (by kernel_rfl) _ rfl
                  exact does_move rfl e54 ⟨Same.refl _, rfl⟩
                refine allp_mild 0 rfl rfl rfl (fun a x W hout hin hP => ?_) ?_
                · have e6 : a.tmps[6]? = some (.pointer (some ⟨g6, 0, none⟩)) := (hout 6 (by kernel_rfl)).trans rfl
                  clear hin hout
                  intro K Q hK
                  exact wp_st_load hP 3 0 36 (.tmp 6) rfl rfl (eval_of_get e6) (recW ⟨lv 0 q, lv 4 q, []⟩ (.slice (some ⟨gP, 0, none⟩) k k)) (slab_whole _) _ Try.underlying36 rfl (by exact info_rec) (hK _ _ ⟨Same.refl _, rfl⟩)
                refine allp_mild 0 rfl rfl rfl (fun a x W hout hin hP => ?_) ?_
                · have e56 := hin.is 5 56 (by kernel_rfl) (by decide) (by kernel_rfl) (by kernel_rfl) _ rfl
                  have C := HCH.out W hP
                  clear hP
                  clear hin hout
                  intro K Q hK
                  go_simp
                  refine C.mono ?_
                  rintro e W' ⟨rfl, hb⟩
                  exact hK _ _ ⟨hb, rfl⟩
                refine allp_mild 0 rfl rfl rfl (fun a x W hout hin hP => ?_) ?_
                · have e1 : a.tmps[1]? = some (.pointer (some ⟨g1, 0, none⟩)) := (hout 1 (by kernel_rfl)).trans rfl
                  clear hin hout
                  intro K Q hK
                  exact wp_st_load hP 0 0 52 (.tmp 1) rfl rfl (eval_of_get e1) (bs b) (slab_whole _) _ Try.underlying52 rfl (size_b32 HBL.out) (hK _ _ ⟨Same.refl _, rfl⟩)
                refine allp_mild 0 rfl rfl rfl (fun a x W hout hin hP => ?_) ?_
                · have e57 := hin.is 6 57 (by kernel_rfl) (by decide) (by kernel_rfl) (by kernel_rfl) _ rfl
                  have e58 := hin.is 7 58 (by kernel_rfl) (by decide) (by kernel_rfl) (by kernel_rfl) _ rfl
                  have qq := eql_blk H b HHL.out HBL.out W
                  rw [decide_eq_true HHB.out] at qq
                  clear hP
                  clear hin hout
                  intro K Q hK
                  go_simp
                  exact hK _ _ ⟨Same.refl _, rfl⟩
                refine allp_mild 0 rfl rfl rfl (fun a x W hout hin hP => ?_) ?_
                · have e55 := hin.is 4 55 (by kernel_rfl) (by decide) (by kernel_rfl) (by kernel_rfl) _ rfl
                  have e59 := hin.is 8 59 (by kernel_rfl) (by decide) (by kernel_rfl) (by kernel_rfl) _ rfl
                  exact does_pick rfl e55 ⟨Same.refl _, eval_of_get e59⟩
                exact all_end (by decide)
              · intro x W hP hV
                have HS : St w noF [⟨g1, 52, bs b⟩, ⟨g2, 36, recW rec0 (.slice none 0 0)⟩, ⟨g4, 101, bs (m :: q)⟩, ⟨g6, 36, recW ⟨lv 0 q, lv 4 q, []⟩ (.slice (some ⟨gP, 0, none⟩) k k)⟩, ⟨gP, 70, pcs (lz q k k)⟩] W := hP
                have hlast : x 9 = .bool false := hV 9 (by decide) (.inl (by kernel_rfl))
                clear hP hV
                simp only [putL, Act.put, List.setIfInBounds_toArray, List.set_cons_succ, List.set_cons_zero, hlast]
                refine wpAnyH_done (by kernel_rfl) ?_ _
                clear hlast
                go_wp2_with (first | ((with_reducible refine wpList_plain ?_ ?_); exact rfl; intro KK hKK; refine wp_st_load HS 3 0 36 (.tmp 6) rfl rfl rfl (recW ⟨lv 0 q, lv 4 q, []⟩ (.slice (some ⟨gP, 0, none⟩) k k)) (slab_whole _) _ Try.underlying36 rfl (by exact info_rec) (hKK _ _ ?_); clear hKK KK) | ((with_reducible refine wpList_plain ?_ ?_); exact rfl; intro KK hKK; refine wp_st_store HS 1 0 36 (.tmp 2) (.tmp 62) rfl rfl rfl (.agg (recW ⟨lv 0 q, lv 4 q, []⟩ (.slice (some ⟨gP, 0, none⟩) k k))) rfl (by exact info_rec) (by exact Nat.le_refl 3) (by exact one_rw _ _ _ _) (recW ⟨lv 0 q, lv 4 q, []⟩ (.slice (some ⟨gP, 0, none⟩) k k)) (spl_agg _ _ _ (rfl) rfl) (fun W61 HSx => hKK _ _ ?_); clear hKK KK HS; have HS : St w noF [⟨g1, 52, bs b⟩, ⟨g2, 36, recW ⟨lv 0 q, lv 4 q, []⟩ (.slice (some ⟨gP, 0, none⟩) k k)⟩, ⟨g4, 101, bs (m :: q)⟩, ⟨g6, 36, recW ⟨lv 0 q, lv 4 q, []⟩ (.slice (some ⟨gP, 0, none⟩) k k)⟩, ⟨gP, 70, pcs (lz q k k)⟩] W61 := HSx; clear HSx))
                exact bodyPost_ret (v := .tuple #[.agg (recW ⟨lv 0 q, lv 4 q, []⟩ (.slice (some ⟨gP, 0, none⟩) k k)), .int .i64 0]) (results_cell_tmp Try.results36 _ _ g2 36 (recW ⟨lv 0 q, lv 4 q, []⟩ (.slice (some ⟨gP, 0, none⟩) k k)) (0, 0) _ rfl (HS.row 1 rfl) Try.underlying36 rfl (by exact info_rec)) rfl (by unfold HeadTold; rw [if_pos HYES.out]; exact ⟨gP, by rw [HNUM.out.1, HNUM.out.2.1, HNUM.out.2.2], by rw [← HAT.out, ← lz_all]; exact HS.row 4 rfl, (HS.own 4 _ rfl).elim (fun h => h.elim) id, HS.below⟩)
end Go.Proofs.Ytcdcongeogmfkaa

/- The program's wal: Get; what the statements need to know of it. -/
set_option maxRecDepth 4000
namespace Go.Proofs.Ytcdcongeogmfkaa
open Go Go.RowKit
theorem toldp_no {w w' : World} {k : Int} (hb : Below w.heap.size w w') : ToldP w rec0 k (.returned (.tuple #[.agg (recW rec0 (.slice none 0 0)), .int .i64 k])) w' :=
  ⟨none, 0, rfl, ⟨none, 0, rfl, Nat.le_refl _, fun x hx => (List.not_mem_nil hx).elim, fun h => absurd rfl h⟩, hb, fun k hk => by cases hk⟩
/- the puts while their images are told -/
def lg (q : List (BitVec 8)) (D : Nat → List (BitVec 8)) (n k : Nat) : List (Int × List (BitVec 8)) := (List.range n).map fun i => (atK q i, if i < k then D i else zer 32)
theorem lg_len (q : List (BitVec 8)) (D : Nat → List (BitVec 8)) (n k : Nat) : (lg q D n k).length = n := by simp [lg]
theorem lg_32 (q : List (BitVec 8)) (D : Nat → List (BitVec 8)) (n k : Nat) (h : ∀ i, i < n → (D i).length = 32) : ∀ x ∈ lg q D n k, x.2.length = 32 := by
  intro x hx
  obtain ⟨i, hi, rfl⟩ := List.mem_map.1 hx
  dsimp only
  split
  · exact h i (List.mem_range.1 hi)
  · exact length_zer 32
theorem lg_at (q : List (BitVec 8)) (D : Nat → List (BitVec 8)) (n k : Nat) (h : k < n) : (lg q D n k)[k]? = some (atK q k, zer 32) := by simp [lg, h]
theorem lg_set (q : List (BitVec 8)) (D : Nat → List (BitVec 8)) (n k : Nat) : (lg q D n k).set k (atK q k, D k) = lg q D n (k + 1) := by
  apply List.ext_getElem (by simp [lg])
  intro i h1 h2
  rw [List.getElem_set]
  simp only [lg, List.getElem_map, List.getElem_range]
  by_cases e : k = i
  · subst e; rw [if_pos rfl, if_pos (by omega)]
  · rw [if_neg e]
    by_cases hlt : i < k
    · rw [if_pos hlt, if_pos (by omega)]
    · rw [if_neg hlt, if_neg (by omega)]
theorem lg_0 (q : List (BitVec 8)) (D : Nat → List (BitVec 8)) (n : Nat) : ((List.range n).map (atK q)).map (fun i => (i, zer 32)) = lg q D n 0 := by
  unfold lg
  rw [List.map_map]
  apply List.map_congr_left
  intro i _
  rw [if_neg (by omega)]; rfl
theorem lg_all (q : List (BitVec 8)) (D : Nat → List (BitVec 8)) (n : Nat) : lg q D n n = (List.range n).map fun i => (atK q i, D i) := by
  unfold lg
  apply List.map_congr_left
  intro i hi
  rw [if_pos (List.mem_range.1 hi)]
theorem isHead_cnt {b : List (BitVec 8)} (h : isHead b = true) : cnt b ≤ 5 := by
  apply Decidable.byContradiction
  intro hn
  rw [isHead_many hn] at h
  cases h
set_option maxRecDepth 20000 in
set_option maxHeartbeats 1200000 in
theorem walget_any (D : DiskOps) (base : Nat) (w : World) (p : Value) (M : DiskM) (F : Nat → Prop) (f : Int) (h : D.A base w p M F) (hf : -9223372036854775808 ≤ f ∧ f < 9223372036854775808) (hl : M.l.length ≤ few) :
    Calls Try.prog 15 #[p, .int .i64 f] w (ToldP w (walGet M f).1 (walGet M f).2) := by
  obtain ⟨O, hO⟩ : ∃ O, D = O := ⟨_, rfl⟩
  subst hO
  have hz := zeros_rw
  have HA := Lib.hid h
  have HF := Lib.hid hf
  have HL := Lib.hid hl
  have HRES : Hid (walGet M f = if mayB M f then (if M.down then (rec0, 20) else if isHead (M.now f.toNat) then (recAt M f.toNat, 0) else (rec0, 11)) else (rec0, 1)) := Lib.hid rfl
  have HOK := Lib.hid (D.ok h)
  have HS := St.nil w noF
  clear h hf hl
  go_enter Try.func15, Try.ntmps15
  go_upto_region 1 with (first | ((with_reducible refine wpList_plain ?_ ?_); exact rfl; intro KK hKK; refine wp_st_alloc HS 36 (recW rec0 (.slice none 0 0)) rfl (.agg (recW rec0 (.slice none 0 0))) (by kernel_rfl) (rfl) (fun g4 W1 HSx => hKK _ _ ?_); clear hKK KK HS; have HS : St w noF [⟨g4, 36, recW rec0 (.slice none 0 0)⟩] W1 := HSx; clear HSx))
  have C1 := haslog_any _ D base p M F (D.still HA.out HS.below) f HF.out
  go_wp2_with fail
  refine C1.mono ?_
  rintro e w1 ⟨rfl, b1⟩
  have HSx := HS.same b1
  clear HS b1 C1
  have HS := HSx
  clear HSx
  cases hmay : mayB M f with
  | false =>
    have hR : walGet M f = (rec0, 1) := by rw [HRES.out, hmay]; rfl
    have HQ1 := Lib.hid hR
    clear hR hmay
    go_wp2_with (first | ((with_reducible refine wpList_plain ?_ ?_); exact rfl; intro KK hKK; refine wp_st_store HS 0 0 36 (.tmp 4) (.tmp 14) rfl rfl rfl (.agg #[.int .u32 0, .int .u32 0, .slice none 0 0]) rfl (by exact info_rec) (by exact Nat.le_refl 3) (by exact one_rw rec0 none 0 0) (recW rec0 (.slice none 0 0)) (spl_agg _ _ _ zeros_rw rfl) (fun W2 HSx => hKK _ _ ?_); clear hKK KK HS; have HS : St w noF [⟨g4, 36, recW rec0 (.slice none 0 0)⟩] W2 := HSx; clear HSx))
    exact bodyPost_ret (v := .tuple #[.agg (recW rec0 (.slice none 0 0)), .int .i64 1]) (results_cell_tmp Try.results15 _ _ g4 36 (recW rec0 (.slice none 0 0)) (0, 0) _ rfl (HS.row 0 rfl) Try.underlying36 rfl (by exact info_rec)) rfl (by first | exact toldp_no HS.below | (rw [HQ1.out]; exact toldp_no HS.below))
  | true =>
    have HM6 : Hid (0 ≤ f ∧ f + 6 ≤ (M.s.length : Int)) := Lib.hid (by unfold mayB at hmay; simpa using hmay)
    obtain ⟨f, rfl⟩ := Int.eq_ofNat_of_zero_le HM6.out.1
    have HFS : Hid (f + 6 ≤ M.s.length ∧ M.s.length ≤ 1024) := Lib.hid ⟨by have := HM6.out; omega, HOK.out.hi⟩
    have hhas : M.has (f : Int) = true := by unfold DiskM.has; have := HFS.out; simp; omega
    cases hdn : M.down with
    | true =>
      have hR : walGet M (f : Int) = (rec0, 20) := by rw [HRES.out, hmay, hdn]; rfl
      have C2 := D.read' (f : Int) (D.still HA.out HS.below) HL.out HF.out (blk 0#8) 20 (by unfold DiskM.rRes; rw [hhas, hdn]; rfl)
      have HQ1 := Lib.hid hR
      clear hR hmay hhas hdn
      have hzb := zeros_blk
      go_wp2_with fail
      refine C2.mono ?_
      rintro e w2 ⟨rfl, b2⟩
      have HSx := HS.same b2
      clear HS b2 C2
      have HS := HSx
      clear HSx
      go_wp2_with (first | ((with_reducible refine wpList_plain ?_ ?_); exact rfl; intro KK hKK; refine wp_st_alloc HS 52 (bs (blk 0#8)) rfl (.agg (bs (blk 0#8))) (by kernel_rfl) (rfl) (fun g6 W2 HSx => hKK _ _ ?_); clear hKK KK HS; have HS : St w noF [⟨g4, 36, recW rec0 (.slice none 0 0)⟩, ⟨g6, 52, bs (blk 0#8)⟩] W2 := HSx; clear HSx) | ((with_reducible refine wpList_plain ?_ ?_); exact rfl; intro KK hKK; refine wp_st_store HS 1 0 52 (.tmp 6) (.tmp 19) rfl rfl rfl (.agg (bs (blk 0#8))) rfl (by exact size_b32 (length_blk 0#8)) (by rw [Nat.zero_add]; exact Nat.le_of_eq (same_b32 (length_blk 0#8)).symm) (by exact one_bs _) (bs (blk 0#8)) (spl_agg _ _ _ rfl (same_b32 (length_blk 0#8))) (fun W3 HSx => hKK _ _ ?_); clear hKK KK HS; have HS : St w noF [⟨g4, 36, recW rec0 (.slice none 0 0)⟩, ⟨g6, 52, bs (blk 0#8)⟩] W3 := HSx; clear HSx) | ((with_reducible refine wpList_plain ?_ ?_); exact rfl; intro KK hKK; refine wp_st_store HS 0 0 36 (.tmp 4) (.tmp 23) rfl rfl rfl (.agg #[.int .u32 0, .int .u32 0, .slice none 0 0]) rfl (by exact info_rec) (by exact Nat.le_refl 3) (by exact one_rw rec0 none 0 0) (recW rec0 (.slice none 0 0)) (spl_agg _ _ _ zeros_rw rfl) (fun W4 HSx => hKK _ _ ?_); clear hKK KK HS; have HS : St w noF [⟨g4, 36, recW rec0 (.slice none 0 0)⟩, ⟨g6, 52, bs (blk 0#8)⟩] W4 := HSx; clear HSx))
      exact bodyPost_ret (v := .tuple #[.agg (recW rec0 (.slice none 0 0)), .int .i64 20]) (results_cell_tmp Try.results15 _ _ g4 36 (recW rec0 (.slice none 0 0)) (0, 0) _ rfl (HS.row 0 rfl) Try.underlying36 rfl (by exact info_rec)) rfl (by rw [HQ1.out]; exact toldp_no HS.below)
    | false =>
      obtain ⟨b, hb⟩ : ∃ b, M.now f = b := ⟨_, rfl⟩
      have HBL : Hid (b.length = 32) := Lib.hid (by rw [← hb]; exact now_length HOK.out (by have := HFS.out; omega))
      have C2 := D.read' (f : Int) (D.still HA.out HS.below) HL.out HF.out b 0 (by unfold DiskM.rRes; rw [hhas, hdn, Int.toNat_natCast, hb]; rfl)
      have hR : walGet M (f : Int) = if isHead b then (recAt M f, 0) else (rec0, 11) := by rw [HRES.out, hmay, hdn, Int.toNat_natCast, hb]; rfl
      have HDN := Lib.hid hdn
      have HB := Lib.hid hb
      have HR0 := Lib.hid hR
      clear hmay hhas hdn hb hR
      have hzb := zeros_blk
      go_wp2_with fail
      refine C2.mono ?_
      rintro e w2 ⟨rfl, b2⟩
      have HSx := HS.same b2
      clear HS b2 C2
      have HS := HSx
      clear HSx
      go_upto_region 6 with (first | ((with_reducible refine wpList_plain ?_ ?_); exact rfl; intro KK hKK; refine wp_st_alloc HS 52 (bs (blk 0#8)) rfl (.agg (bs (blk 0#8))) (by kernel_rfl) (rfl) (fun g6 W2 HSx => hKK _ _ ?_); clear hKK KK HS; have HS : St w noF [⟨g4, 36, recW rec0 (.slice none 0 0)⟩, ⟨g6, 52, bs (blk 0#8)⟩] W2 := HSx; clear HSx) | ((with_reducible refine wpList_plain ?_ ?_); exact rfl; intro KK hKK; refine wp_st_store HS 1 0 52 (.tmp 6) (.tmp 19) rfl rfl rfl (.agg (bs (b))) rfl (by exact size_b32 HBL.out) (by rw [Nat.zero_add]; exact Nat.le_of_eq (same_b32 HBL.out).symm) (by exact one_bs _) (bs (b)) (spl_agg _ _ _ rfl (same_b32 HBL.out)) (fun W3 HSx => hKK _ _ ?_); clear hKK KK HS; have HS : St w noF [⟨g4, 36, recW rec0 (.slice none 0 0)⟩, ⟨g6, 52, bs (b)⟩] W3 := HSx; clear HSx) | ((with_reducible refine wpList_plain ?_ ?_); exact rfl; intro KK hKK; refine wp_st_load HS 1 0 52 (.tmp 6) rfl rfl rfl (bs b) (slab_whole _) _ Try.underlying52 rfl (size_b32 HBL.out) (hKK _ _ ?_); clear hKK KK))
      clear hzb
      go_wp2_with (first | ((with_reducible refine wpList_plain ?_ ?_); exact rfl; intro KK hKK; refine wp_st_alloc HS 52 (bs (blk 0#8)) rfl (.agg (bs (blk 0#8))) (by kernel_rfl) (rfl) (fun g6 W2 HSx => hKK _ _ ?_); clear hKK KK HS; have HS : St w noF [⟨g4, 36, recW rec0 (.slice none 0 0)⟩, ⟨g6, 52, bs (blk 0#8)⟩] W2 := HSx; clear HSx) | ((with_reducible refine wpList_plain ?_ ?_); exact rfl; intro KK hKK; refine wp_st_store HS 1 0 52 (.tmp 6) (.tmp 19) rfl rfl rfl (.agg (bs (b))) rfl (by exact size_b32 HBL.out) (by rw [Nat.zero_add]; exact Nat.le_of_eq (same_b32 HBL.out).symm) (by exact one_bs _) (bs (b)) (spl_agg _ _ _ rfl (same_b32 HBL.out)) (fun W3 HSx => hKK _ _ ?_); clear hKK KK HS; have HS : St w noF [⟨g4, 36, recW rec0 (.slice none 0 0)⟩, ⟨g6, 52, bs (b)⟩] W3 := HSx; clear HSx) | ((with_reducible refine wpList_plain ?_ ?_); exact rfl; intro KK hKK; refine wp_st_load HS 1 0 52 (.tmp 6) rfl rfl rfl (bs b) (slab_whole _) _ Try.underlying52 rfl (size_b32 HBL.out) (hKK _ _ ?_); clear hKK KK))
      refine (without_any b _ HBL.out).mono ?_
      intro e w3 hp
      unfold HeadTold at hp
      have hR := HR0.out
      cases hi : isHead b with
      | false =>
        rw [hi, if_neg (by decide)] at hp
        obtain ⟨rfl, b3⟩ := hp
        rw [hi, if_neg (by decide)] at hR
        have HQ1 := Lib.hid hR
        clear hR hi
        have HSx := HS.same b3
        clear HS b3
        have HS := HSx
        clear HSx
        go_wp2_with (first | ((with_reducible refine wpList_plain ?_ ?_); exact rfl; intro KK hKK; refine wp_st_alloc HS 36 (recW rec0 (.slice none 0 0)) rfl (.agg (recW rec0 (.slice none 0 0))) (by kernel_rfl) (rfl) (fun g8 W4 HSx => hKK _ _ ?_); clear hKK KK HS; have HS : St w noF [⟨g4, 36, recW rec0 (.slice none 0 0)⟩, ⟨g6, 52, bs (b)⟩, ⟨g8, 36, recW rec0 (.slice none 0 0)⟩] W4 := HSx; clear HSx) | ((with_reducible refine wpList_plain ?_ ?_); exact rfl; intro KK hKK; refine wp_st_store HS 2 0 36 (.tmp 8) (.tmp 28) rfl rfl rfl (.agg (recW rec0 (.slice none 0 0))) rfl (by exact info_rec) (by exact Nat.le_refl 3) (by exact one_rw rec0 none 0 0) (recW rec0 (.slice none 0 0)) (spl_agg _ _ _ rfl rfl) (fun W5 HSx => hKK _ _ ?_); clear hKK KK HS; have HS : St w noF [⟨g4, 36, recW rec0 (.slice none 0 0)⟩, ⟨g6, 52, bs (b)⟩, ⟨g8, 36, recW rec0 (.slice none 0 0)⟩] W5 := HSx; clear HSx) | ((with_reducible refine wpList_plain ?_ ?_); exact rfl; intro KK hKK; refine wp_st_store HS 0 0 36 (.tmp 4) (.tmp 32) rfl rfl rfl (.agg #[.int .u32 0, .int .u32 0, .slice none 0 0]) rfl (by exact info_rec) (by exact Nat.le_refl 3) (by exact one_rw rec0 none 0 0) (recW rec0 (.slice none 0 0)) (spl_agg _ _ _ zeros_rw rfl) (fun W6 HSx => hKK _ _ ?_); clear hKK KK HS; have HS : St w noF [⟨g4, 36, recW rec0 (.slice none 0 0)⟩, ⟨g6, 52, bs (b)⟩, ⟨g8, 36, recW rec0 (.slice none 0 0)⟩] W6 := HSx; clear HSx))
        exact bodyPost_ret (v := .tuple #[.agg (recW rec0 (.slice none 0 0)), .int .i64 11]) (results_cell_tmp Try.results15 _ _ g4 36 (recW rec0 (.slice none 0 0)) (0, 0) _ rfl (HS.row 0 rfl) Try.underlying36 rfl (by exact info_rec)) rfl (by rw [HQ1.out]; exact toldp_no HS.below)
      | true =>
        have HI := Lib.hid hi
        rw [hi, if_pos rfl] at hp hR
        obtain ⟨gP, rfl, rP, hgP, b3⟩ := hp
        have HRR := Lib.hid hR
        obtain ⟨n, hn⟩ : ∃ n, cnt b = n := ⟨_, rfl⟩
        obtain ⟨q, hq⟩ : ∃ q, bodyOf b = q := ⟨_, rfl⟩
        obtain ⟨e0, he0⟩ : ∃ e0, num ((bodyOf b).take 4) = e0 := ⟨_, rfl⟩
        obtain ⟨s0, hs0⟩ : ∃ s0, num (((bodyOf b).drop 4).take 4) = s0 := ⟨_, rfl⟩
        obtain ⟨DD, hDD⟩ : ∃ DD : Nat → List (BitVec 8), (fun k => M.now (f + 1 + k)) = DD := ⟨_, rfl⟩
        have HDF : Hid (∀ k, M.now (f + 1 + k) = DD k) := Lib.hid (fun k => congrFun hDD k)
        have HN5 : Hid (n ≤ 5) := Lib.hid (by rw [← hn]; exact isHead_cnt hi)
        have HDL : Hid (∀ i, i < n → (DD i).length = 32) := Lib.hid (fun i hin => by rw [← hDD]; exact now_length HOK.out (by have := HFS.out; have := HN5.out; omega))
        have hat : atsOf b = (List.range n).map (atK q) := by unfold atsOf; rw [hn, hq]; rfl
        have HRA : Hid (recAt M f = ⟨e0, s0, lg q DD n n⟩) := Lib.hid (by rw [lg_all, ← hDD, ← he0, ← hs0, ← hn, ← hq, ← HB.out]; rfl)
        rw [hat, lg_0 q DD n] at rP
        rw [hn, he0, hs0]
        have HSx : St w noF [⟨g4, 36, recW rec0 (.slice none 0 0)⟩, ⟨g6, 52, bs (b)⟩, ⟨gP, 70, pcs (lg q DD n 0)⟩] w3 := HS.add b3 rP hgP
        clear hR hi hn hq he0 hs0 hDD hat HS b3 rP hgP
        have HS := HSx
        clear HSx
        go_upto_region 9 with (first | ((with_reducible refine wpList_plain ?_ ?_); exact rfl; intro KK hKK; refine wp_st_alloc HS 36 (recW rec0 (.slice none 0 0)) rfl (.agg (recW rec0 (.slice none 0 0))) (by kernel_rfl) (rfl) (fun g8 W41 HSx => hKK _ _ ?_); clear hKK KK HS; have HS : St w noF [⟨g4, 36, recW rec0 (.slice none 0 0)⟩, ⟨g6, 52, bs (b)⟩, ⟨gP, 70, pcs (lg q DD n 0)⟩, ⟨g8, 36, recW rec0 (.slice none 0 0)⟩] W41 := HSx; clear HSx) | ((with_reducible refine wpList_plain ?_ ?_); exact rfl; intro KK hKK; refine wp_st_store HS 3 0 36 (.tmp 8) (.tmp 28) rfl rfl rfl (.agg (recW ⟨e0, s0, []⟩ (.slice (some ⟨gP, 0, none⟩) n n))) rfl (by exact info_rec) (by exact Nat.le_refl 3) (by exact one_rw _ _ _ _) (recW ⟨e0, s0, []⟩ (.slice (some ⟨gP, 0, none⟩) n n)) (spl_agg _ _ _ rfl rfl) (fun W42 HSx => hKK _ _ ?_); clear hKK KK HS; have HS : St w noF [⟨g4, 36, recW rec0 (.slice none 0 0)⟩, ⟨g6, 52, bs (b)⟩, ⟨gP, 70, pcs (lg q DD n 0)⟩, ⟨g8, 36, recW ⟨e0, s0, []⟩ (.slice (some ⟨gP, 0, none⟩) n n)⟩] W42 := HSx; clear HSx))
        have c2 : W42.cell? ⟨g8, 2, none⟩ = some (.slice (some ⟨gP, 0, none⟩) n n) := (HS.row 3 rfl).get rfl
        go_upto_region 10 with fail
        clear c2
        have hn5 : n ≤ 5 := HN5.out
        have HS8 := Lib.hid HS
        clear HS
        go_loopw [37] (fun i wr => ∃ k : Nat, k ≤ n ∧ i = .int .i64 k ∧ St w noF [⟨g4, 36, recW rec0 (.slice none 0 0)⟩, ⟨g6, 52, bs (b)⟩, ⟨gP, 70, pcs (lg q DD n k)⟩, ⟨g8, 36, recW ⟨e0, s0, []⟩ (.slice (some ⟨gP, 0, none⟩) n n)⟩] wr) (fun i _ => n - (intOf i).toNat)
        case atStart => exact ⟨0, by omega, rfl, HS8.out⟩
        case round =>
          clear HS8
          obtain ⟨k, hk, rfl, HS⟩ := hrel
          by_cases hlt : k < n
          · have hk0 : (0 : Int) ≤ (k : Int) := by omega
            have hk1 : (k : Int) < (n : Int) := by omega
            have HKN := Lib.hid hlt
            have HDK := Lib.hid (HDL.out k hlt)
            have HIM : Hid ((0 : Int) ≤ (f : Int) ∧ (f : Int) ≤ 2000 ∧ (0 : Int) ≤ (k : Int) ∧ (k : Int) ≤ 2000) := Lib.hid ⟨by omega, by have := HFS.out; omega, by omega, by have := HN5.out; omega⟩
            have HRD : Hid (∀ W, Below w.heap.size w W → Calls Try.prog 26 #[p, .int .i64 ((f : Int) + 1 + (k : Int))] W (Asks W (.tuple #[.agg (bs (DD k)), .int .i64 0]))) := Lib.hid (fun W hb => by
              refine D.read' ((f : Int) + 1 + (k : Int)) (D.still HA.out hb) HL.out (by have := HFS.out; have := HN5.out; omega) (DD k) 0 ?_
              have h1 : M.has ((f : Int) + 1 + (k : Int)) = true := by unfold DiskM.has; have := HFS.out; have := HN5.out; simp; omega
              unfold DiskM.rRes
              rw [h1, HDN.out, show ((f : Int) + 1 + (k : Int)).toNat = f + 1 + k by omega]
              exact congrArg (fun x => (x, (0 : Int))) (HDF.out k))
            go_upto_region 12 with fail
            have hF0 : Wl [fun W => St w noF [⟨g4, 36, recW rec0 (.slice none 0 0)⟩, ⟨g6, 52, bs (b)⟩, ⟨gP, 70, pcs (lg q DD n k)⟩, ⟨g8, 36, recW ⟨e0, s0, []⟩ (.slice (some ⟨gP, 0, none⟩) n n)⟩] W, fun W => St w noF [⟨g4, 36, recW rec0 (.slice none 0 0)⟩, ⟨g6, 52, bs (b)⟩, ⟨gP, 70, pcs (lg q DD n (k + 1))⟩, ⟨g8, 36, recW ⟨e0, s0, []⟩ (.slice (some ⟨gP, 0, none⟩) n n)⟩] W] 0 (World.drew _) := HS.drew
            clear HS
            refine wp_region_phs [is (.pointer (some ⟨g8, 2, none⟩)), is (.slice (some ⟨gP, 0, none⟩) n n), is (.int .i64 (k : Int)), is (p), is (.int .i64 (f : Int)), is (.int .i64 (k : Int)), is (.int .i64 ((f : Int) + 1 + (k : Int))), is (.tuple #[.agg (bs (DD k)), .int .i64 0]), is (.tuple #[.agg (bs (DD k)), .int .i64 0]), is (.agg (bs (DD k))), is (.int .i64 0), is (.pointer (some ⟨gP, k * 33, none⟩)), is (.pointer (some ⟨gP, k * 33 + 1, none⟩)), anyV, is (.int .i64 0)] [true, true, true, true, true, true, true, true, true, true, true, true, true, true, true] [(fun W => St w noF [⟨g4, 36, recW rec0 (.slice none 0 0)⟩, ⟨g6, 52, bs (b)⟩, ⟨gP, 70, pcs (lg q DD n k)⟩, ⟨g8, 36, recW ⟨e0, s0, []⟩ (.slice (some ⟨gP, 0, none⟩) n n)⟩] W), (fun W => St w noF [⟨g4, 36, recW rec0 (.slice none 0 0)⟩, ⟨g6, 52, bs (b)⟩, ⟨gP, 70, pcs (lg q DD n (k + 1))⟩, ⟨g8, 36, recW ⟨e0, s0, []⟩ (.slice (some ⟨gP, 0, none⟩) n n)⟩] W)] [false, false, false, false, false, false, false, false, false, false, false, false, false, true, false] [some 0, some 0, some 0, some 0, some 0, some 0, some 0, some 0, some 0, some 0, none, some 0, some 0, some 0, some 1] [some 41, some 42, some 43, some 44, some 45, some 46, some 47, some 48, some 40, some 49, some 50, some 51, some 52, none, some 7] 15 1 (fun _ => true) rfl rfl (by kernel_rfl) (by kernel_rfl) (by kernel_rfl) (by kernel_rfl) ?_ ?_ ?_ ?_ ?_ ?_
            · repeat first | exact wok_nil | refine wok_cons (by first | exact fun _ _ h k => h.same k) ?_
            · repeat first | exact vok_nil | refine vok_rig (by first | exact fun _ _ _ h => h) ?_ | refine vok_soft (by first | exact fun _ _ _ h _ => h) ?_
            · exact hF0
            · repeat first | exact all_end (by decide) | refine all_cons (by first | exact rfl | exact ⟨rfl, fun _ _ h => Or.inl h⟩ | exact ⟨rfl, fun _ _ h => Or.inr ⟨h, rfl⟩⟩) ?_
            · refine allp_mild 0 rfl rfl rfl (fun a x W hout hin hP => ?_) ?_
              · have e8 : a.tmps[8]? = some (.pointer (some ⟨g8, 0, none⟩)) := (hout 8 (by kernel_rfl)).trans rfl
                clear hin hout
                intro K Q hK
                go_simp
                exact hK _ _ ⟨Same.refl _, rfl⟩
              refine allp_mild 0 rfl rfl rfl (fun a x W hout hin hP => ?_) ?_
              · have e41 := hin.is 0 41 (by kernel_rfl) (by decide) (by kernel_rfl) (by kernel_rfl) _ rfl
                have hc : W.cell? ⟨g8, 2, none⟩ = some (.slice (some ⟨gP, 0, none⟩) n n) := (hP.row 3 rfl).get rfl
                clear hP
                clear hin hout
                intro K Q hK
                go_simp
                exact hK _ _ ⟨Same.refl _, rfl⟩
              refine allp_mild 0 rfl rfl rfl (fun a x W hout hin hP => ?_) ?_
              · have e9 : a.tmps[9]? = some (.int .i64 (k : Int)) := (hout 9 (by kernel_rfl)).trans rfl
                exact does_move rfl e9 ⟨Same.refl _, rfl⟩
              refine allp_mild 0 rfl rfl rfl (fun a x W hout hin hP => ?_) ?_
              · have e0 : a.tmps[0]? = some (p) := (hout 0 (by kernel_rfl)).trans rfl
                exact does_move rfl e0 ⟨Same.refl _, rfl⟩
              refine allp_mild 0 rfl rfl rfl (fun a x W hout hin hP => ?_) ?_
              · have e1 : a.tmps[1]? = some (.int .i64 (f : Int)) := (hout 1 (by kernel_rfl)).trans rfl
                exact does_move rfl e1 ⟨Same.refl _, rfl⟩
              refine allp_mild 0 rfl rfl rfl (fun a x W hout hin hP => ?_) ?_
              · have e9 : a.tmps[9]? = some (.int .i64 (k : Int)) := (hout 9 (by kernel_rfl)).trans rfl
                exact does_move rfl e9 ⟨Same.refl _, rfl⟩
              refine allp_mild 0 rfl rfl rfl (fun a x W hout hin hP => ?_) ?_
              · have e45 := hin.is 4 45 (by kernel_rfl) (by decide) (by kernel_rfl) (by kernel_rfl) _ rfl
                have e46 := hin.is 5 46 (by kernel_rfl) (by decide) (by kernel_rfl) (by kernel_rfl) _ rfl
                have C := image_any (f : Int) (k : Int) W HIM.out.1 HIM.out.2.1 HIM.out.2.2.1 HIM.out.2.2.2
                clear hP
                clear hin hout
                intro K Q hK
                go_simp
                refine C.mono ?_
                rintro e W' ⟨rfl, rfl⟩
                exact hK _ _ ⟨Same.refl _, rfl⟩
              refine allp_mild 0 rfl rfl rfl (fun a x W hout hin hP => ?_) ?_
              · have e44 := hin.is 3 44 (by kernel_rfl) (by decide) (by kernel_rfl) (by kernel_rfl) _ rfl
                have e47 := hin.is 6 47 (by kernel_rfl) (by decide) (by kernel_rfl) (by kernel_rfl) _ rfl
                have C := HRD.out W hP.below
                clear hP
                clear hin hout
                intro K Q hK
                go_simp
                refine C.mono ?_
                rintro e W' ⟨rfl, hb⟩
                exact hK _ _ ⟨hb, rfl⟩
              refine allp_mild 0 rfl rfl rfl (fun a x W hout hin hP => ?_) ?_
              · have e48 := hin.is 7 48 (by kernel_rfl) (by decide) (by kernel_rfl) (by kernel_rfl) _ rfl
                exact does_move rfl e48 ⟨Same.refl _, rfl⟩
              refine allp_mild 0 rfl rfl rfl (fun a x W hout hin hP => ?_) ?_
              · have e40 := hin.is 8 40 (by kernel_rfl) (by decide) (by kernel_rfl) (by kernel_rfl) _ rfl
                clear hin hout
                intro K Q hK
                go_simp
                exact hK _ _ ⟨Same.refl _, rfl⟩
              refine allp_pure rfl rfl (fun a x W hout hin => ?_) ?_
              · have e40 := hin.is 8 40 (by kernel_rfl) (by decide) (by kernel_rfl) (by kernel_rfl) _ rfl
                clear hin hout
                intro K Q hK
                go_simp
                exact hK _ _ ⟨rfl, rfl⟩
              refine allp_mild 0 rfl rfl rfl (fun a x W hout hin hP => ?_) ?_
              · have e42 := hin.is 1 42 (by kernel_rfl) (by decide) (by kernel_rfl) (by kernel_rfl) _ rfl
                have e43 := hin.is 2 43 (by kernel_rfl) (by decide) (by kernel_rfl) (by kernel_rfl) _ rfl
                clear hin hout
                intro K Q hK
                go_simp
                exact hK _ _ ⟨Same.refl _, rfl⟩
              refine allp_mild 0 rfl rfl rfl (fun a x W hout hin hP => ?_) ?_
              · have e51 := hin.is 11 51 (by kernel_rfl) (by decide) (by kernel_rfl) (by kernel_rfl) _ rfl
                clear hin hout
                intro K Q hK
                go_simp
                exact hK _ _ ⟨Same.refl _, rfl⟩
              refine allp_wild 0 rfl rfl rfl (fun a x W hout hin hP => ?_) ?_
              · have e52 := hin.is 12 52 (by kernel_rfl) (by decide) (by kernel_rfl) (by kernel_rfl) _ rfl
                have e49 := hin.is 9 49 (by kernel_rfl) (by decide) (by kernel_rfl) (by kernel_rfl) _ rfl
                clear hin hout
                intro K Q hK
                exact wp_st_store hP 2 (k * 33 + 1) 52 (.tmp 52) (.tmp 49) rfl rfl (eval_of_get e52) (.agg (bs (DD k))) (eval_of_get e49) (by exact size_b32 HDK.out) (by show k * 33 + 1 + (bs (DD k)).size ≤ (pcs (lg q DD n k)).size; rw [size_pcs (lg_32 q DD n k HDL.out), lg_len, size_bs, HDK.out]; have := HKN.out; omega) (by exact one_bs _) (pcs (lg q DD n (k + 1))) (by rw [show Value.cells (.agg (bs (DD k))) = bs (DD k) from rfl, bs_toList, pcs_data (lg_32 q DD n k HDL.out) (lg_at q DD n k HKN.out) (DD k) HDK.out, lg_set q DD n k]) (fun W' HSx => hK _ _ ⟨HSx, trivial⟩)
              refine allp_mild 1 rfl rfl rfl (fun a x W hout hin hP => ?_) ?_
              · have e50 := hin.is 10 50 (by kernel_rfl) (by decide) (by kernel_rfl) (by kernel_rfl) _ rfl
                exact does_assign rfl e50 ⟨Same.refl _, rfl⟩
              exact all_end (by decide)
            · intro x W hP hV
              have HS9 := Lib.hid (show St w noF [⟨g4, 36, recW rec0 (.slice none 0 0)⟩, ⟨g6, 52, bs (b)⟩, ⟨gP, 70, pcs (lg q DD n (k + 1))⟩, ⟨g8, 36, recW ⟨e0, s0, []⟩ (.slice (some ⟨gP, 0, none⟩) n n)⟩] W from hP)
              have h14 : x 14 = .int .i64 0 := hV 14 (by decide) (.inl (by kernel_rfl))
              clear hP hV
              simp only [putL, Act.put, List.setIfInBounds_toArray, List.set_cons_succ, List.set_cons_zero, h14]
              refine wpAnyH_done (by kernel_rfl) ?_ _
              clear h14
              go_wp2_with fail
              exact ⟨⟨k + 1, by omega, by go_num, HS9.out⟩, by simp [intOf] <;> omega⟩
          · obtain rfl : k = n := by omega
            have hq : decide ((k : Int) < (k : Int)) = false := decide_eq_false (by omega)
            clear hlt
            go_wp2_with (first | ((with_reducible refine wpList_plain ?_ ?_); exact rfl; intro KK hKK; refine wp_st_load HS 3 0 36 (.tmp 8) rfl rfl rfl (recW ⟨e0, s0, []⟩ (.slice (some ⟨gP, 0, none⟩) k k)) (slab_whole _) _ Try.underlying36 rfl (by exact info_rec) (hKK _ _ ?_); clear hKK KK) | ((with_reducible refine wpList_plain ?_ ?_); exact rfl; intro KK hKK; refine wp_st_store HS 0 0 36 (.tmp 4) (.tmp 58) rfl rfl rfl (.agg (recW ⟨e0, s0, []⟩ (.slice (some ⟨gP, 0, none⟩) k k))) rfl (by exact info_rec) (by exact Nat.le_refl 3) (by exact one_rw _ _ _ _) (recW ⟨e0, s0, []⟩ (.slice (some ⟨gP, 0, none⟩) k k)) (spl_agg _ _ _ rfl rfl) (fun W61 HSx => hKK _ _ ?_); clear hKK KK HS; have HS : St w noF [⟨g4, 36, recW ⟨e0, s0, []⟩ (.slice (some ⟨gP, 0, none⟩) k k)⟩, ⟨g6, 52, bs (b)⟩, ⟨gP, 70, pcs (lg q DD k k)⟩, ⟨g8, 36, recW ⟨e0, s0, []⟩ (.slice (some ⟨gP, 0, none⟩) k k)⟩] W61 := HSx; clear HSx))
            exact bodyPost_ret (v := .tuple #[.agg (recW ⟨e0, s0, []⟩ (.slice (some ⟨gP, 0, none⟩) k k)), .int .i64 0]) (results_cell_tmp Try.results15 _ _ g4 36 (recW ⟨e0, s0, []⟩ (.slice (some ⟨gP, 0, none⟩) k k)) (0, 0) _ rfl (HS.row 0 rfl) Try.underlying36 rfl (by exact info_rec)) rfl (by rw [HRR.out, HRA.out]; exact ⟨some ⟨gP, 0, none⟩, k, by rw [lg_len]; rfl, by rw [lg_len]; have := puts_pcs (c := k) (HS.row 2 rfl) (by rw [lg_len]; exact Nat.le_refl _) (fun x hx => ⟨lg_32 q DD k k HDL.out x hx, by obtain ⟨i, _, rfl⟩ := List.mem_map.1 hx; have := atK_b q i; dsimp only; omega⟩); rwa [lg_len] at this, HS.below, fun j hj => by cases hj; exact (HS.own 2 _ rfl).elim (fun h => h.elim) id⟩)
set_option maxHeartbeats 400000 in
theorem walget_nil (D : DiskOps) (w : World) (f : Int) (hf : -9223372036854775808 ≤ f ∧ f < 9223372036854775808) : Calls Try.prog 15 #[nilPtr, .int .i64 f] w (ToldP w rec0 1) := by
  have hz := zeros_rw
  have HF := Lib.hid hf
  have HS := St.nil w noF
  clear hf
  go_enter Try.func15, Try.ntmps15
  go_upto_region 1 with (first | ((with_reducible refine wpList_plain ?_ ?_); exact rfl; intro KK hKK; refine wp_st_alloc HS 36 (recW rec0 (.slice none 0 0)) rfl (.agg (recW rec0 (.slice none 0 0))) (by kernel_rfl) (rfl) (fun g4 W1 HSx => hKK _ _ ?_); clear hKK KK HS; have HS : St w noF [⟨g4, 36, recW rec0 (.slice none 0 0)⟩] W1 := HSx; clear HSx))
  have C1 := haslog_nil W1 D f HF.out
  go_wp2_with fail
  refine C1.mono ?_
  rintro e w1 ⟨rfl, b1⟩
  have HSx := HS.same b1
  clear HS b1 C1
  have HS := HSx
  clear HSx
  go_wp2_with (first | ((with_reducible refine wpList_plain ?_ ?_); exact rfl; intro KK hKK; refine wp_st_store HS 0 0 36 (.tmp 4) (.tmp 14) rfl rfl rfl (.agg #[.int .u32 0, .int .u32 0, .slice none 0 0]) rfl (by exact info_rec) (by exact Nat.le_refl 3) (by exact one_rw rec0 none 0 0) (recW rec0 (.slice none 0 0)) (spl_agg _ _ _ zeros_rw rfl) (fun W2 HSx => hKK _ _ ?_); clear hKK KK HS; have HS : St w noF [⟨g4, 36, recW rec0 (.slice none 0 0)⟩] W2 := HSx; clear HSx))
  exact bodyPost_ret (v := .tuple #[.agg (recW rec0 (.slice none 0 0)), .int .i64 1]) (results_cell_tmp Try.results15 _ _ g4 36 (recW rec0 (.slice none 0 0)) (0, 0) _ rfl (HS.row 0 rfl) Try.underlying36 rfl (by exact info_rec)) rfl (by first | exact toldp_no HS.below | (rw [HQ1.out]; exact toldp_no HS.below))
theorem walOps : WalOps diskOps where
  good := walgood_any
  put := fun base w p M F f e0 s0 A c l h hf hv hl hA hM _ => walput_any diskOps base w p M F f e0 s0 A c l h hf hv hl hA hM
  putNil := fun w f e0 s0 A c l hf _ _ => walput_nil diskOps w f e0 s0 A c l hf
  get := walget_any diskOps
  getNil := walget_nil diskOps
end Go.Proofs.Ytcdcongeogmfkaa
