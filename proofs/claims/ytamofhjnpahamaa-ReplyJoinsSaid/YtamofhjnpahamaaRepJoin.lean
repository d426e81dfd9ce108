/- Are replies fair? The program's Join of any replies; the law's fair. -/
import Derived.Test.YtamofhjnpahamaaReps
import Derived.Test.YtamofhjnpahamaaRepPrg
import Derived.Deep.Cut
set_option maxRecDepth 4000
namespace Go.Proofs.Ytamofhjnpahamaa
open Go Go.RowKit
def fairR (l : List Rp) : Bool := decide (∀ x ∈ l, x.2.2.length ≤ 600) && decide (l.length ≤ 20)
theorem fairR_of {l : List Rp} (h : fairR l = true) : (∀ x ∈ l, x.2.2.length ≤ 600) ∧ l.length ≤ 20 := by
  unfold fairR at h
  simpa only [Bool.and_eq_true, decide_eq_true_eq] using h
set_option maxHeartbeats 800000 in
theorem fairrep_any (A : Option Addr) (n c : Nat) (l : List Rp) (w : World) (h : RepsAt w (.slice A n c) l) (hn : n ≤ maxLen) :
    Calls Try.prog 7 #[.slice A n c] w fun e w' => e = .returned (.bool (fairR l)) ∧ w = w' := by
  have hln := reps_len h
  have HF := Lib.hid (fun k (hk : k < l.length) => reps_get h hk)
  obtain ⟨G, hG⟩ : ∃ G, fairR l = G := ⟨_, rfl⟩
  have HALL : Hid ((∀ j < n, ∀ x, l[j]? = some x → x.2.2.length ≤ 600) → G = decide (n ≤ 20)) := Lib.hid fun h => by
    rw [← hG]; unfold fairR
    rw [decide_eq_true (p := ∀ x ∈ l, x.2.2.length ≤ 600) (fun x hx => by
      obtain ⟨j, hj, e⟩ := List.getElem_of_mem hx
      exact h j (by omega) x (by rw [List.getElem?_eq_getElem hj, e])), hln]; rfl
  have HNO : Hid (∀ (k : Nat) (x : Rp), l[k]? = some x → 600 < x.2.2.length → G = false) := Lib.hid fun k x hx h => by
    rw [← hG]; unfold fairR
    rw [decide_eq_false (p := ∀ x ∈ l, x.2.2.length ≤ 600) (fun e => by have := e x (List.mem_of_getElem? hx); omega)]; rfl
  have HL := Lib.hid hln
  have hn' : n ≤ 9223372036854775807 := by unfold maxLen at hn; omega
  rw [hG]
  clear h hG hln hn
  go_enter Try.func7, Try.ntmps7
  go_wp2_with fail
  go_loopw [3] (fun i wr => ∃ k : Nat, k ≤ n ∧ i = .int .i64 k ∧ Hid (∀ j < k, ∀ x, l[j]? = some x → x.2.2.length ≤ 600) ∧ w = wr) (fun i _ => n - (intOf i).toNat)
  case atStart => exact ⟨0, by omega, rfl, Lib.hid fun j hj => by omega, rfl⟩
  case round =>
    obtain ⟨k, hk, rfl, hE, rfl⟩ := hrel
    by_cases hlt : k < n
    · obtain ⟨b, o, i, e, B, m, c', d, hx, rfl, hb, hr, _, hm, _, hmm, _⟩ := HF.out k (by rw [HL.out]; exact hlt)
      obtain ⟨O, hO⟩ : ∃ O, o + k * 3 = O := ⟨_, rfl⟩
      rw [hO] at hr
      have c2 : w.cell? ⟨b, O + 2, none⟩ = some (.slice B m c') := hr 2 _ rfl
      have HX := Lib.hid hx
      have HM := Lib.hid hm
      have hmm' : m ≤ 9223372036854775807 := by unfold maxLen at hmm; omega
      clear hx hr hm hmm
      by_cases h6 : m ≤ 600
      · go_wp2_with fail
        refine ⟨⟨k + 1, by omega, by go_num, Lib.hid fun j hj x hjx => ?_, by first | rfl | trivial⟩, ?_⟩
        · by_cases hjk : j = k
          · subst hjk
            have := HX.out.symm.trans hjx
            injection this with this
            subst this
            have := HM.out
            show d.length ≤ 600
            omega
          · exact hE.out j (by omega) x hjx
        · simp [intOf]; omega
      · have hG := HNO.out k _ HX.out (by have := HM.out; show 600 < d.length; omega)
        go_wp2_with fail
        go_ret
        exact ⟨by first | (rw [hG]; done) | (rw [hG]; rfl), rfl⟩
    · obtain rfl : k = n := by omega
      have hG := HALL.out hE.out
      go_wp2_with fail
      go_ret
      exact ⟨by rw [hG]; first | rfl | (simp; omega), rfl⟩
/- the bytes of all, one behind the other -/
def okR (x : Rp) : Bool := mayR x.1 x.2.1 x.2.2.length
def bytR (x : Rp) : List (BitVec 8) := repB x.1 x.2.1 x.2.2
def jnB (l : List Rp) : List (BitVec 8) := if l.all okR then (l.map bytR).flatten else []
def jnE (l : List Rp) : Int := if l.all okR then 0 else 11
theorem okR_len {x : Rp} (h : okR x = true) : (bytR x).length = 8 + x.2.2.length ∧ x.2.2.length ≤ 255 := by
  obtain ⟨_, _, _, _, h5⟩ := mayR_of h
  exact ⟨length_repB _ _ _, h5⟩
theorem jn_len {l : List Rp} (h : ∀ x ∈ l, okR x = true) : (l.map bytR).flatten.length ≤ 263 * l.length := by
  induction l with
  | nil => simp
  | cons x l ih =>
    have h1 := okR_len (h x (List.mem_cons_self ..))
    have h2 := ih (fun y hy => h y (List.mem_cons_of_mem _ hy))
    rw [List.map_cons, List.flatten_cons, List.length_append, List.length_cons]
    omega
theorem rep_one (i e : Int) (A : Option Addr) (n c : Nat) : (Value.agg (repCells i e (.slice A n c))).cells.all (·.oneCell') = true := by simp [Value.cells, repCells, Value.oneCell']
theorem jn_take {l : List Rp} {k : Nat} {x : Rp} (h : l[k]? = some x) : ((l.take (k + 1)).map bytR).flatten = ((l.take k).map bytR).flatten ++ bytR x := by
  obtain ⟨hk, rfl⟩ := List.getElem?_eq_some_iff.1 h
  rw [List.take_add_one, List.getElem?_eq_getElem hk, List.map_append, List.flatten_append]
  simp only [Option.toList, List.map_cons, List.map_nil, List.flatten_cons, List.flatten_nil, List.append_nil]
set_option maxHeartbeats 1600000 in
theorem repjoin_any (A : Option Addr) (n c : Nat) (l : List Rp) (w : World) (h : RepsAt w (.slice A n c) l) (hn : n ≤ 1000000) :
    Calls Try.prog 13 #[.slice A n c] w fun e w' => ∃ v, e = .returned (.tuple #[v, .int .i64 (jnE l)]) ∧ w'.ownsRow w.heap.size 5 1 v (jnB l).length (bytesV (jnB l)) ∧ Below w.heap.size w w' := by
  have hln := reps_len h
  have HF := Lib.hid (fun k (hk : k < l.length) => reps_get h hk)
  obtain ⟨G, hG⟩ : ∃ G, jnE l = G := ⟨_, rfl⟩
  obtain ⟨J, hJ⟩ : ∃ J, jnB l = J := ⟨_, rfl⟩
  have HALL : Hid ((∀ j < n, ∀ x, l[j]? = some x → okR x = true) → G = 0 ∧ J = (l.map bytR).flatten) := Lib.hid fun h => by
    have ha : l.all okR = true := List.all_eq_true.2 fun x hx => by
      obtain ⟨j, hj, e⟩ := List.getElem_of_mem hx
      exact h j (by omega) x (by rw [List.getElem?_eq_getElem hj, e])
    rw [← hG, ← hJ]; unfold jnE jnB; rw [ha]; exact ⟨rfl, rfl⟩
  have HNO : Hid (∀ (k : Nat) (x : Rp), l[k]? = some x → okR x = false → G = 11 ∧ J = []) := Lib.hid fun k x hx h => by
    have ha : l.all okR = false := by
      cases hb : l.all okR with
      | false => rfl
      | true => rw [List.all_eq_true.1 hb x (List.mem_of_getElem? hx)] at h; cases h
    rw [← hG, ← hJ]; unfold jnE jnB; rw [ha]; exact ⟨rfl, rfl⟩
  have HL := Lib.hid hln
  have HSZ : Hid (∀ k, k ≤ n → (∀ j < k, ∀ x, l[j]? = some x → okR x = true) → ((l.take k).map bytR).flatten.length ≤ 263000000) := Lib.hid fun k hk h => by
    have h1 := jn_len (l := l.take k) (fun x hx => by
      obtain ⟨j, hj, e⟩ := List.getElem_of_mem hx
      rw [List.length_take] at hj
      refine h j (by omega) x ?_
      rw [← e, List.getElem_take, List.getElem?_eq_getElem])
    rw [List.length_take] at h1
    omega
  rw [hG, hJ]
  clear h hG hJ hln
  go_enter Try.func13, Try.ntmps13
  go_wp2_with fail
  go_loopw [4, 11] (fun v i wr => ∃ k : Nat, k ≤ n ∧ i = .int .i64 k ∧ Hid (∀ j < k, ∀ x, l[j]? = some x → okR x = true) ∧ wr.ownsRow w.heap.size 5 1 v ((l.take k).map bytR).flatten.length (bytesV ((l.take k).map bytR).flatten) ∧ Below w.heap.size w wr) (fun _ i _ => n - (intOf i).toNat)
  case atStart => exact ⟨0, by omega, rfl, Lib.hid fun j hj => by omega, World.ownsRow_nil _ _ _ _, Below.refl _ _⟩
  case round =>
    obtain ⟨k, hk, rfl, hE, hO, hB⟩ := hrel
    have HO := Lib.hid hO
    have HB := Lib.hid hB
    clear hO hB
    by_cases hlt : k < n
    · obtain ⟨b, o, i, e, B, m, c', d, hx, rfl, hb, hr, hs, hm, hA, hmm, _⟩ := HF.out k (by rw [HL.out]; exact hlt)
      obtain ⟨O, hO⟩ : ∃ O, o + k * 3 = O := ⟨_, rfl⟩
      rw [hO] at hr
      have HX := Lib.hid hx
      have HM := Lib.hid hm
      have HS0 := Lib.hid hs
      have HA := Lib.hid hA
      have HW := Lib.hid hb
      have HR : Hid (wr.rangeAt b O [.int .i64 i, .int .i64 e, .slice B m c']) := Lib.hid fun j v hv => (HB.out.cell (p := ⟨b, O + j, none⟩) hb).trans (hr j v hv)
      clear hx hr hs hm hA hmm hb
      have hBs := HB.out.size
      have HS := St.nil wr noF
      go_upto_region 5 with (first | ((with_reducible refine wpList_plain ?_ ?_); exact rfl; intro KK hKK; refine wp_load_mid 31 (.tmp 13) rfl b O rfl [.int .i64 i, .int .i64 e, .slice B m c'] _ HR.out Try.underlying31 rfl (by exact size_rep) (hKK _ _ ?_); clear hKK KK) | ((with_reducible refine wpList_plain ?_ ?_); exact rfl; intro KK hKK; refine wp_st_alloc HS 31 (repCells 0 0 (.slice none 0 0)) rfl (.agg (repCells 0 0 (.slice none 0 0))) (by kernel_rfl) (rfl) (fun g1 W1 HSx => hKK _ _ ?_); clear hKK KK HS; have HS : St wr noF [⟨g1, 31, repCells 0 0 (.slice none 0 0)⟩] W1 := HSx; clear HSx) | ((with_reducible refine wpList_plain ?_ ?_); exact rfl; intro KK hKK; refine wp_st_store HS 0 0 31 (.tmp 6) (.tmp 14) rfl rfl rfl (.agg (repCells i e (.slice B m c'))) rfl (by exact size_rep) (Nat.le_refl _) (rep_one ..) (repCells i e (.slice B m c')) (by exact spl_agg _ _ _ rfl rfl) (fun W2 HSx => hKK _ _ ?_); clear hKK KK HS; have HS : St wr noF [⟨g1, 31, repCells i e (.slice B m c')⟩] W2 := HSx; clear HSx))
      have HB2 := Lib.hid (HB.out.trans (HS.below.mono hBs))
      have hs2 := HS0.out.below HB2.out (Nat.le_refl _)
      have HO2 := Lib.hid (owns_call HO.out HS.below)
      have HS1 := Lib.hid HS.below.size
      clear HO
      cases hok : mayR i e m with
      | false =>
        have C := Lib.hid (repenc_bad i e B m c' W2 hok)
        obtain ⟨hG, hJ⟩ := HNO.out k _ HX.out (by unfold okR; rw [HM.out]; exact hok)
        clear hs2 hok
        go_wp2_with (first | ((with_reducible refine wpList_plain ?_ ?_); exact rfl; intro KK hKK; refine wp_st_load HS 0 0 31 (.tmp 6) rfl rfl rfl (repCells i e (.slice B m c')) (slab_whole _) _ Try.underlying31 rfl (by exact size_rep) (hKK _ _ ?_); clear hKK KK))
        refine C.out.mono ?_
        rintro x w3 ⟨rfl, hb3⟩
        clear C HS
        go_wp2_with fail
        go_ret2
        exact ⟨_, by first | (rw [hG]; done) | (rw [hG]; rfl), by rw [hJ]; exact World.ownsRow_nil _ _ _ _, HB2.out.trans (hb3.mono (Nat.le_trans hBs HS1.out))⟩
      | true =>
        have C := Lib.hid (repenc_good i e B m c' d HM.out W2 hs2 HA.out hok)
        have HOK : Hid (okR (i, e, d) = true) := Lib.hid (by unfold okR; rw [HM.out]; exact hok)
        clear hs2 hok
        go_wp2_with (first | ((with_reducible refine wpList_plain ?_ ?_); exact rfl; intro KK hKK; refine wp_st_load HS 0 0 31 (.tmp 6) rfl rfl rfl (repCells i e (.slice B m c')) (slab_whole _) _ Try.underlying31 rfl (by exact size_rep) (hKK _ _ ?_); clear hKK KK))
        refine C.out.mono ?_
        rintro x w3 ⟨v3, rfl, ho3, hb3⟩
        have HB3 := Lib.hid (HB2.out.trans (hb3.mono (Nat.le_trans hBs HS1.out)))
        have HO3 := Lib.hid (owns_call HO2.out hb3)
        have hsl := own_slice ho3
        have hnl := own_nil ho3
        obtain ⟨A3, c3, rfl, _⟩ := own_slice_form ho3
        have HE2 : Hid (∀ j < k + 1, ∀ x, l[j]? = some x → okR x = true) := Lib.hid fun j hj x hjx => by
          by_cases hjk : j = k
          · subst hjk
            have := HX.out.symm.trans hjx
            injection this with this
            subst this
            exact HOK.out
          · exact hE.out j (by omega) x hjx
        have hz1 := HSZ.out k hk hE.out
        have hz2 := okR_len HOK.out
        have hz3 : (repB i e d).length = 8 + d.length := hz2.1
        have hz4 : d.length ≤ 255 := hz2.2
        clear C HS ho3 hz2 HO2
        obtain ⟨L, hL⟩ : ∃ L, (repB i e d).length = L := ⟨_, rfl⟩
        rw [hL] at hz3 hsl hnl ⊢
        have hz5 : L ≤ 263 := by omega
        have HLL := Lib.hid hL
        clear hz3 hz4 hL
        obtain ⟨M, hM⟩ : ∃ M, ((l.take k).map bytR).flatten.length = M := ⟨_, rfl⟩
        rw [hM] at hz1 HO3
        have HMM := Lib.hid hM
        clear hM
        have HBs : w.heap.size ≤ w3.heap.size := HB3.out.size
        go_wp2_with (at_builtin; refine wpList_append_slice rfl (.tmp 23) (.tmp 24) rfl w.heap.size _ M _ rfl HO3.out A3 L c3 _ rfl hsl (fun h => hnl _ _ (by rw [h])) (by omega) HBs ?_; intro v5 w5 own5 hb5; rw [← bytesV_apps] at own5; have HO5 := Lib.hid own5; have HB5 := Lib.hid (HB3.out.trans hb5); clear own5 hb5 hsl hnl)
        refine ⟨⟨k + 1, by omega, by go_num, HE2, ?_, HB5.out⟩, by simp [intOf]; omega⟩
        have hj := jn_take HX.out
        rw [hj, List.length_append, HMM.out, show (bytR (i, e, d)).length = L from HLL.out]
        exact HO5.out
    · obtain rfl : k = n := by omega
      obtain ⟨hG, hJ⟩ := HALL.out hE.out
      have hT : l.take k = l := List.take_of_length_le (by rw [HL.out]; exact Nat.le_refl _)
      rw [hT, ← hJ] at HO
      go_wp2_with fail
      go_ret2
      exact ⟨_, by first | (rw [hG]; done) | (rw [hG]; rfl), HO.out, HB.out⟩
end Go.Proofs.Ytamofhjnpahamaa
