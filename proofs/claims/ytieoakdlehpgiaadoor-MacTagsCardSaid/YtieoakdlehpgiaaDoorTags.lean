/- The statement MacTags: its walk. -/
import Derived.Test.YtieoakdlehpgiaaDoorRefMac
import Derived.Test.YtieoakdlehpgiaaDoorEq64
namespace Go.Proofs.YtieoakdlehpgiaaDoor
open Go Go.RowKit
theorem own_nil {w : World} {base e n : Nat} {v : Value} {xs : List Value} (h : w.ownsRow base e 1 v n xs) : ∀ m c, v = .slice none m c → c = 0 := by
  intro m c e
  rcases h.2 with ⟨rfl, _⟩ | ⟨g, cap, cur, rfl, _⟩
  · injection e with _ _ e; exact e.symm
  · injection e with e _ _; cases e
set_option maxHeartbeats 1600000 in
theorem tags_walk (Ak : Option Addr) (ck : Nat) (key : List (BitVec 8)) (ps : List (List (BitVec 8))) (v : Value) (w : World) (hT : Tab w) (hk : Slice w (.slice Ak key.length ck) key) (hkN : Ak = none → ck = 0) (hkm : key.length ≤ maxLen) (hv : Hand w v ps) (hn : ps.length ≤ maxLen) (hnil : ∀ n c, v = .slice none n c → c = 0) :
    Calls Tryd.prog 3 #[.slice Ak key.length ck, v] w fun e w' => e = .returned (.bool true) ∧ Below w.heap.size w w' := by
  have HI : Hid (Item w (.slice Ak key.length ck) key) := Lib.hid ⟨Ak, ck, rfl, hk, hkN, hkm⟩
  have hkm' := hkm
  unfold maxLen at hkm'
  have HT := Lib.hid hT
  have HK := Lib.hid hk
  have HKN := Lib.hid hkN
  have HV := Lib.hid hv
  have HN := Lib.hid hn
  have HNIL := Lib.hid hnil
  obtain ⟨A, c, rfl, _⟩ := hv
  clear hT hk hkN hkm hn hnil
  by_cases hbig : 300 < key.length
  · go_enter Tryd.func3, Tryd.ntmps3
    go_wp2_with fail
    refine (mwakes_any w HT.out).mono ?_
    rintro e w1 ⟨rfl, hb⟩
    go_wp2_with fail
    go_ret
    exact ⟨rfl, hb⟩
  · have d0 : decide ((300 : Int) < (key.length : Int)) = false := by simp; omega
    go_enter Tryd.func3, Tryd.ntmps3
    go_wp2_with fail
    refine (fair_any ps _ w HV.out HN.out).mono ?_
    rintro e w1 ⟨bf, rfl, hf, rfl⟩
    cases bf with
    | false =>
      go_wp2_with fail
      refine (mwakes_any w1 HT.out).mono ?_
      rintro e w2 ⟨rfl, hb⟩
      go_wp2_with fail
      go_ret
      exact ⟨rfl, hb⟩
    | true =>
      obtain ⟨hn, hM⟩ := hf rfl
      clear hf
      have hS0 := HK.out.below ((Below.refl w1.heap.size w1).alloc (Nat.le_refl _) (.cells #[] 5)) (Nat.le_refl _)
      go_wp2_with (first | (at_builtin; refine wpList_append_slice rfl (.tmp 15) (.tmp 16) rfl w1.heap.size _ 0 [] rfl (own_empty w1) Ak key.length ck key rfl hS0 HKN.out (by omega) (by simp) ?_; intro kv w4 own1 hb4; simp only [Nat.zero_add, List.nil_append] at own1; obtain ⟨Ac, cc, rfl⟩ := own_form own1; clear hS0))
      have hb04 : Below w1.heap.size w1 w4 := ((Below.refl w1.heap.size w1).alloc (Nat.le_refl _) _).trans hb4
      have hks := own_slice own1
      clear own1 hb4
      refine (copy_any ps _ w4 (HV.out.below hb04 (Nat.le_refl _)) hn (fun q hq => Nat.le_trans (mem_flat ps q hq) hM)).mono ?_
      rintro e w5 ⟨v2, rfl, hO⟩
      have hP2 := hO.parts
      have hb5 : Below w4.heap.size w4 w5 := by obtain ⟨_, _, h, _⟩ := hO; exact h
      have hN2 : ∀ m c, v2 = .slice none m c → c = 0 := by obtain ⟨_, h, _⟩ := hO; exact own_nil h
      obtain ⟨A2, c2, rfl⟩ : ∃ A2 c2, v2 = .slice A2 ps.length c2 := by obtain ⟨_, h, _⟩ := hO; exact own_form h
      have hks5 := hks.below hb5 (Nat.le_refl _)
      have hb05 := hb04.trans (hb5.mono hb04.size)
      clear hO hks hb04 hb5
      go_wp2_with fail
      refine (mac_any key ps _ _ w5 (HT.out.below hb05 HT.out.pos) hks5 (by omega) hP2 hN2 (by omega) (by omega)).mono ?_
      rintro e w6 ⟨rfl, hb6⟩
      have hks6 := hks5.below hb6 (Nat.le_refl _)
      have hb06 := hb05.trans (hb6.mono hb05.size)
      clear hP2 hN2 hks5 hb05 hb6
      go_wp2_with fail
      refine (refmac_any key ps _ _ w6 (HI.out.below hb06 (Nat.le_refl _)) (by omega) (HV.out.below hb06 (Nat.le_refl _)) HNIL.out (by omega) (by omega)).mono ?_
      rintro e w7 ⟨rfl, hb7⟩
      have hks7 := hks6.below hb7 (Nat.le_refl _)
      have hb07 := hb06.trans (hb7.mono hb06.size)
      have q1 := eql_dig (tagOf key ps.flatten) (length_tagOf _ _)
      have q2 := eql_block (blockOf key) (length_blockOf key)
      clear hks6 hb06 hb7
      generalize tagOf key ps.flatten = TG at *
      go_wp2_with fail
      refine (block_any key _ w7 (HT.out.below hb07 HT.out.pos) hks7 (by omega)).mono ?_
      rintro e w8 ⟨rfl, hb8⟩
      have hks8 := hks7.below hb8 (Nat.le_refl _)
      have hb08 := hb07.trans (hb8.mono hb07.size)
      clear hks7 hb07 hb8
      go_wp2_with fail
      refine (refblock_any key _ w8 (HI.out.below hb08 (Nat.le_refl _)) (by omega)).mono ?_
      rintro e w9 ⟨rfl, hb9⟩
      have hks9 := hks8.below hb9 (Nat.le_refl _)
      have hb09 := hb08.trans (hb9.mono hb08.size)
      clear hks8 hb08 hb9
      generalize blockOf key = B at *
      go_wp2_with fail
      refine (keep_true _ _ key w9 hks9 (HK.out.below hb09 (Nat.le_refl _))).mono ?_
      rintro e w10 ⟨rfl, rfl⟩
      go_wp2_with fail
      refine (mwakes_any w9 (HT.out.below hb09 HT.out.pos)).mono ?_
      rintro e w11 ⟨rfl, hb11⟩
      go_wp2_with fail
      go_ret
      exact ⟨rfl, hb09.trans (hb11.mono hb09.size)⟩
end Go.Proofs.YtieoakdlehpgiaaDoor
