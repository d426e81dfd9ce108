/- Are volumes not too many, nor too long? -/
import Derived.Test.YtkfccdjeohbngaaVols
import Derived.Deep.Cut
set_option maxRecDepth 4000
namespace Go.Proofs.Ytkfccdjeohbngaa
open Go Go.RowKit
def okV (x : Vl) : Bool := decide (x.1.size ≤ 100) && decide (x.2.length ≤ 50)
def fairV (l : List Vl) : Bool := l.all okV && decide (l.length ≤ 20)
theorem fairV_len {l : List Vl} (h : fairV l = true) : l.length ≤ 20 := by unfold fairV at h; simp at h; exact h.2
theorem fairV_each {l : List Vl} (h : fairV l = true) : ∀ x ∈ l, x.2.length ≤ 50 := by
  intro x hx
  unfold fairV at h
  have h := (Bool.and_eq_true _ _ ▸ h).1
  have := List.all_eq_true.1 h x hx
  unfold okV at this
  simp at this
  exact this.2
set_option maxHeartbeats 1600000 in
theorem fairV_any (A : Option Addr) (n c : Nat) (l : List Vl) (w : World) (h : VolsAt w (.slice A n c) l) (hn : n ≤ maxLen) :
    Calls Try.prog 7 #[.slice A n c] w fun e w' => e = .returned (.bool (fairV l)) ∧ w = w' := by
  have hln := vols_len h
  have HF := Lib.hid (fun k (hk : k < l.length) => vols_get h hk)
  have HL := Lib.hid hln
  obtain ⟨G, hG⟩ : ∃ G, fairV l = G := ⟨_, rfl⟩
  have HALL : Hid ((∀ k x, l[k]? = some x → okV x = true) → G = decide (n ≤ 20)) := Lib.hid fun h => by
    rw [← hG]
    unfold fairV
    rw [List.all_eq_true.2 (fun x hx => by obtain ⟨k, hk⟩ := List.getElem?_of_mem hx; exact h k x hk), hln]
    rfl
  have HNO : Hid (∀ k x, l[k]? = some x → okV x = false → G = false) := Lib.hid fun k x hx h => by
    rw [← hG]
    unfold fairV
    have : l.all okV = false := by
      rw [Bool.eq_false_iff]
      intro h2
      rw [List.all_eq_true.1 h2 x (List.mem_of_getElem? hx)] at h
      cases h
    rw [this]; rfl
  have HN9 : Hid (n ≤ 9223372036854775807) := Lib.hid (by unfold maxLen at hn; omega)
  rw [hG]
  clear h hln hG hn
  go_enter Try.func7, Try.ntmps7
  go_wp2_with fail
  go_loopw [3] (fun i wr => ∃ k : Nat, k ≤ n ∧ i = .int .i64 k ∧ Hid (∀ j < k, ∀ x, l[j]? = some x → okV x = true) ∧ w = wr) (fun i _ => n - (intOf i).toNat)
  case atStart => exact ⟨0, by omega, rfl, Lib.hid (fun j hj => by omega), rfl⟩
  case round =>
    obtain ⟨k, hk, rfl, HE, rfl⟩ := hrel
    by_cases hlt : k < n
    · obtain ⟨b, o, s0, L, B, m, c1, hx, rfl, hbw, hr, _, hlm, _⟩ := HF.out k (by rw [HL.out]; exact hlt)
      obtain ⟨O, hO⟩ : ∃ O, o + k * 2 = O := ⟨_, rfl⟩
      rw [hO] at hr
      have c0 : w.cell? ⟨b, O, none⟩ = some (.string s0) := hr 0 _ rfl
      have c1' : w.cell? ⟨b, O + 1, none⟩ = some (.slice B m c1) := hr 1 _ rfl
      have hk0 : (0 : Int) ≤ (k : Int) := by omega
      have hk1 : (k : Int) < (n : Int) := by omega
      have hn9 := HN9.out
      obtain ⟨z, hz⟩ : ∃ z, s0.size = z := ⟨_, rfl⟩
      have HOK : Hid (okV (s0, L) = (decide (z ≤ 100) && decide (m ≤ 50))) := Lib.hid (by rw [← hz, ← hlm]; rfl)
      have HX := Lib.hid hx
      clear hr hx hlm
      by_cases h1 : 100 < z
      · have hd1 : decide (100 < z) = true := decide_eq_true h1
        have hd1' : decide ((100 : Int) < (z : Int)) = true := decide_eq_true (by omega)
        have hG := HNO.out k _ HX.out (by rw [HOK.out, decide_eq_false (by omega)]; rfl)
        go_wp2_with fail
        go_ret
        exact ⟨by rw [hG]; rfl, rfl⟩
      have hd1 : decide (100 < z) = false := decide_eq_false h1
      have hd1' : decide ((100 : Int) < (z : Int)) = false := decide_eq_false (by omega)
      by_cases h2 : 50 < m
      · have hd2 : decide (50 < m) = true := decide_eq_true h2
        have hd2' : decide ((50 : Int) < (m : Int)) = true := decide_eq_true (by omega)
        have hG := HNO.out k _ HX.out (by rw [HOK.out, decide_eq_false (p := m ≤ 50) (by omega), Bool.and_false])
        go_wp2_with fail
        go_ret
        exact ⟨by rw [hG]; rfl, rfl⟩
      have hd2 : decide (50 < m) = false := decide_eq_false h2
      have hd2' : decide ((50 : Int) < (m : Int)) = false := decide_eq_false (by omega)
      have HKX : Hid (okV (s0, L) = true) := Lib.hid (by rw [HOK.out, decide_eq_true (p := z ≤ 100) (by omega), decide_eq_true (p := m ≤ 50) (by omega)]; rfl)
      go_wp2_with fail
      refine ⟨⟨k + 1, by omega, by go_num, Lib.hid fun j hj x hx => ?_, by first | rfl | trivial⟩, by simp [intOf]; omega⟩
      rcases Nat.lt_or_eq_of_le (Nat.le_of_lt_succ hj) with h | rfl
      · exact HE.out j h x hx
      · rw [HX.out] at hx; cases hx; exact HKX.out
    · obtain rfl : k = n := by omega
      have hG := HALL.out (fun j x hx => HE.out j (by rw [← HL.out]; exact (List.getElem?_eq_some_iff.1 hx).1) x hx)
      have hn9 := HN9.out
      by_cases h20 : k ≤ 20
      · have hd : decide (k ≤ 20) = true := decide_eq_true h20
        have hd2 : decide ((k : Int) ≤ 20) = true := decide_eq_true (by omega)
        rw [hd] at hG
        go_wp2_with fail
        go_ret
        exact ⟨by rw [hG]; rfl, rfl⟩
      · have hd : decide (k ≤ 20) = false := decide_eq_false h20
        have hd2 : decide ((k : Int) ≤ 20) = false := decide_eq_false (by omega)
        rw [hd] at hG
        go_wp2_with fail
        go_ret
        exact ⟨by rw [hG]; rfl, rfl⟩
end Go.Proofs.Ytkfccdjeohbngaa
