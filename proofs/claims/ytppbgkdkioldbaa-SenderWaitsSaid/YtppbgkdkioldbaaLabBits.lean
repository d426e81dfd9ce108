/- The program's bits of puts. -/
import Derived.Test.YtppbgkdkioldbaaLabelBits
import Derived.Test.YtppbgkdkioldbaaHalf
import Derived.Test.YtppbgkdkioldbaaPuts
import Derived.Test.YtppbgkdkioldbaaSt
import Derived.Deep.Cut
set_option maxRecDepth 4000
namespace Go.Proofs.Ytppbgkdkioldbaa
open Go Go.RowKit
def zput : Array Value := (pcell (0, zer 32)).toArray
theorem size_putl : (Try.prog.info? 61).map (·.size) = some 33 := by kernel_rfl
theorem one_pcell (x : Int × List (BitVec 8)) : (pcell x).toArray.all (·.oneCell') = true := by
  rw [Array.all_eq_true_iff_forall_mem]
  intro v hv
  rw [List.mem_toArray] at hv
  rcases List.mem_cons.1 hv with rfl | hv
  · rfl
  · exact one_bytesV _ v hv
attribute [local go_sem] or_hd
set_option maxRecDepth 20000 in
set_option maxHeartbeats 800000 in
theorem labbits_any (l : List (Int × List (BitVec 8))) (v : Value) (w : World) (hv : PutsAt w v l) (hl : l.length ≤ 1000000) :
    Calls Try.prog 32 #[v] w fun e w' => e = .returned (.int .u16 (hd (bitsOf (l.map (·.1))))) ∧ Below w.heap.size w w' := by
  obtain ⟨A, c, rfl, _, hb, h3⟩ := hv
  have H3 := Lib.hid h3
  have HB := Lib.hid hb
  obtain ⟨n, hn⟩ : ∃ n, l.length = n := ⟨_, rfl⟩
  have HN := Lib.hid hn
  obtain ⟨D, hD⟩ : ∃ D : Nat → BitVec 16, ∀ k, bitsOf ((l.map (·.1)).take k) = D k := ⟨_, fun _ => rfl⟩
  have HD1 : Hid (∀ k x, l[k]? = some x → D (k + 1) = D k ||| bit1 x.1) := Lib.hid fun k x hx => by
    obtain ⟨hk, rfl⟩ := List.getElem?_eq_some_iff.1 hx
    rw [← hD, ← hD, bitsOf_take _ k (by simpa using hk)]; simp
  have HD0 : Hid (D 0 = 0#16) := Lib.hid (by rw [← hD]; rfl)
  rw [show bitsOf (l.map (·.1)) = D n by rw [← hD, ← hn]; congr 1; exact (List.take_of_length_le (by simp)).symm]
  rw [hn] at hl ⊢
  clear hD h3 hn hb
  go_enter Try.func32, Try.ntmps32
  go_wp2_with fail
  go_loopw [3, 8] (fun x i wr => ∃ k : Nat, k ≤ n ∧ i = .int .i64 k ∧ x = .int .u16 (hd (D k)) ∧ Below w.heap.size w wr) (fun _ i _ => n - (intOf i).toNat)
  case atStart => exact ⟨0, by omega, rfl, by rw [HD0.out]; rfl, Below.refl _ _⟩
  case round =>
    obtain ⟨k, hk, rfl, rfl, hB⟩ := hrel
    by_cases hlt : k < n
    · obtain ⟨⟨i, q⟩, hx⟩ : ∃ x, l[k]? = some x := ⟨_, List.getElem?_eq_getElem (by rw [HN.out]; exact hlt)⟩
      obtain ⟨b, o, rfl, hbw, h6⟩ := H3.out (by intro e; rw [e] at hx; simp at hx)
      have rg : wr.rangeAt b (o + k * 33) (pcell (i, q)) := fun j v hv => (hB.cell (p := ⟨b, o + k * 33 + j, none⟩) hbw).trans (h6 k _ hx j v hv)
      have hbd := (HB.out (i, q) (List.mem_of_getElem? hx)).2
      have HPL : Hid ((pcell (i, q)).length = 33) := Lib.hid (len_pcell (HB.out (i, q) (List.mem_of_getElem? hx)).1)
      have hd1 := HD1.out k _ hx
      have HD2 := Lib.hid hd1
      have hk0 : (0 : Int) ≤ (k : Int) := by omega
      have hk1 : (k : Int) < (n : Int) := by omega
      obtain ⟨X, hX⟩ : ∃ X, (pcell (i, q)).toArray = X := ⟨_, rfl⟩
      have HP1 : Hid ((Try.prog.info? 61).map (·.size) = some X.size) := Lib.hid (by rw [← hX, List.size_toArray, HPL.out]; exact size_putl)
      have HP2 : Hid (zput.size = X.size) := Lib.hid (by
        have e : (pcell (i, q)).toArray.size = 33 := by rw [List.size_toArray, HPL.out]
        rw [← hX, e]; rfl)
      have HP3 : Hid (X.all (·.oneCell') = true) := Lib.hid (by rw [← hX]; exact one_pcell _)
      have HX0 : Hid (X[0]? = some (.int .i64 i)) := Lib.hid (by rw [← hX]; rfl)
      have rg : wr.rangeAt b (o + k * 33) X.toList := by rw [← hX]; exact rg
      have HPX : Hid (X.toList.length = 33) := Lib.hid (by rw [← hX]; exact HPL.out)
      clear hX HPL
      have HBB := Lib.hid hB
      have HS := St.nil wr noF
      clear hx h6 hd1 hB
      go_upto_region 5 with (first | (refine wpList_load_mid rfl 61 _ rfl b (o + k * 33) rfl X.toList _ rg Try.underlying61 rfl (by rw [HPX.out]; exact size_putl) ?_) | ((with_reducible refine wpList_plain ?_ ?_); exact rfl; intro KK hKK; refine wp_st_alloc HS 61 (zput) rfl (.agg (zput)) (by kernel_rfl) (rfl) (fun g5 W1 HSx => hKK _ _ ?_); clear hKK KK HS; have HS : St wr noF [⟨g5, 61, zput⟩] W1 := HSx; clear HSx) | ((with_reducible refine wpList_plain ?_ ?_); exact rfl; intro KK hKK; refine wp_st_store HS 0 0 61 (.tmp 5) (.tmp 11) rfl rfl rfl (.agg (X)) rfl (by exact HP1.out) (by rw [Nat.zero_add]; exact Nat.le_of_eq (Eq.symm (HP2.out))) (HP3.out) (X) (spl_agg _ _ _ rfl (HP2.out)) (fun W2 HSx => hKK _ _ ?_); clear hKK KK HS; have HS : St wr noF [⟨g5, 61, X⟩] W2 := HSx; clear HSx))
      have hc := (HS.row 0 rfl).get HX0.out
      have HB2 := Lib.hid (HBB.out.trans (HS.below.mono HBB.out.size))
      clear rg HBB HS
      by_cases h0 : 0 ≤ i
      · by_cases h12 : i < 12
        · have hd3 : decide (0 ≤ i) = true := decide_eq_true h0
          have hd4 : decide (i < 12) = true := decide_eq_true h12
          have hb1 := bit1_eq i h0 h12
          go_wp2_with fail
          exact ⟨⟨k + 1, by omega, by go_num, by rw [HD2.out], HB2.out⟩, by simp [intOf] <;> omega⟩
        · have hd3 : decide (0 ≤ i) = true := decide_eq_true h0
          have hd4 : decide (i < 12) = false := decide_eq_false h12
          have HZ : Hid (bit1 i = 0#16) := Lib.hid (by unfold bit1; rw [if_neg (fun h => h12 h.2)])
          go_wp2_with fail
          exact ⟨⟨k + 1, by omega, by go_num, by rw [HD2.out, HZ.out, BitVec.or_zero], HB2.out⟩, by simp [intOf] <;> omega⟩
      · have hd3 : decide (0 ≤ i) = false := decide_eq_false h0
        have HZ : Hid (bit1 i = 0#16) := Lib.hid (by unfold bit1; rw [if_neg (fun h => h0 h.1)])
        go_wp2_with fail
        exact ⟨⟨k + 1, by omega, by go_num, by rw [HD2.out, HZ.out, BitVec.or_zero], HB2.out⟩, by simp [intOf] <;> omega⟩
    · obtain rfl : k = n := by omega
      go_wp2_with fail
      go_ret
      exact ⟨rfl, hB⟩
end Go.Proofs.Ytppbgkdkioldbaa
