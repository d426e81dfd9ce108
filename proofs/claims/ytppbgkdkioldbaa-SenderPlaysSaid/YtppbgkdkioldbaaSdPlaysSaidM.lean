/- SenderPlays: for every list of steps and number of sixteen bits the call returns true and changes nothing that it was handed. Conditions: those of the row. -/
import Derived.Deep.CutBlock
import Derived.Deep.DeepCutAuto
import Derived.Test.YtppbgkdkioldbaaRows
import Derived.Test.YtppbgkdkioldbaaMWal1
import Derived.Test.YtppbgkdkioldbaaMWal0
import Derived.Test.YtppbgkdkioldbaaMGen1
import Derived.Test.YtppbgkdkioldbaaMGen0
/- The statement SenderPlays: its walk. -/
set_option maxRecDepth 4000
namespace Go.Proofs.Ytppbgkdkioldbaa
open Go Go.ChangeShapes Go.WideShapes Go.ChangeAt Go.RowKit
theorem size_stpP : (Try.prog.info? 37).map (·.size) = some 7 := by kernel_rfl
theorem stp_one (kd pk : Int) (e s : BitVec 32) (A B : Option Addr) (n c m d : Nat) (bb : Bool) : (Value.agg (stpA kd pk e s (.slice A n c) (.slice B m d) bb)).cells.all (·.oneCell') = true := by simp [Value.cells, stpA, Value.oneCell']
theorem stps_max {w : World} {A0 : Option Addr} {n c0 : Nat} {l : List SR} (h : StpsAt w (.slice A0 n c0) l) : n ≤ maxLen := by
  have hln := stps_len h
  obtain ⟨_, _, _, _, _, h4, _⟩ := h
  rw [← hln]
  exact h4
def lensOf (l : List SR) (k : Nat) : Nat × Nat := match l[k]? with
  | some x => (x.2.1.2.2.2.1.length, x.2.2.1.length)
  | none => (0, 0)
theorem lens_at {w : World} {A0 : Option Addr} {n c0 : Nat} {l : List SR} (h : StpsAt w (.slice A0 n c0) l) : LensAt w A0 n (lensOf l) := fun k hk => by
  have hln := stps_len h
  obtain ⟨b, o, kd, pk, e, s, lp, lq, bb, A, m1, c1, B, m2, c2, hx, hA, hbw, hr, hp1, hp2⟩ := stps_get h (k := k) (by omega)
  have hL : lensOf l k = (m1, m2) := by unfold lensOf; rw [hx]; exact Prod.ext (puts_len hp1) (puts_len hp2)
  rw [hL]
  exact ⟨b, o, A, c1, B, c2, hA, hr 4 _ rfl, hr 5 _ rfl⟩
structure D24 (w W : World) (g k : Nat) (S : Snd) : Prop where
  snd : SndAt W g S
  rsn : RsnAt W k S
  low : Below w.heap.size w W
  ne : g ≠ k
  gg : w.heap.size ≤ g
  kk : w.heap.size ≤ k
theorem D24.call {w W W' : World} {g k : Nat} {S : Snd} (h : D24 w W g k S) (hb : Below W.heap.size W W') : D24 w W' g k S := ⟨h.snd.call hb, h.rsn.call hb, h.low.trans (hb.mono h.low.size), h.ne, h.gg, h.kk⟩
theorem RsnAt.lt {W : World} {g : Nat} {S : Snd} (h : RsnAt W g S) : g < W.heap.size := by
  obtain ⟨A, n, c, B, m, d, iz, wz, h1, _⟩ := h
  exact h1.lt
structure Cmp24 (w : World) (g5 g6 g13 g15 : Nat) (S : Snd) (u2 v2 u3 v4 : Value) (iz wz : Bool) (W : World) : Prop where
  dd : D24 w W g5 g6 S
  rr : Row W g6 35 (rsnC iz wz S.o S.p u2 v2 S.n S.t)
  po2 : PutsAt W u2 S.o.l
  pp2 : PutsAt W v2 S.p.l
  ro : Row W g13 30 (pktA S.o.k S.o.e S.o.s u3)
  re : Row W g15 30 (pktA S.p.k S.p.e S.p.s v4)
  po3 : PutsAt W u3 S.o.l
  pp4 : PutsAt W v4 S.p.l
theorem Cmp24.call {w W W' : World} {g5 g6 g13 g15 : Nat} {S : Snd} {u2 v2 u3 v4 : Value} {iz wz : Bool} (h : Cmp24 w g5 g6 g13 g15 S u2 v2 u3 v4 iz wz W) (hb : Below W.heap.size W W') : Cmp24 w g5 g6 g13 g15 S u2 v2 u3 v4 iz wz W' :=
  ⟨h.dd.call hb, h.rr.call hb, h.po2.below hb (Nat.le_refl _), h.pp2.below hb (Nat.le_refl _), h.ro.call hb, h.re.call hb, h.po3.below hb (Nat.le_refl _), h.pp4.below hb (Nat.le_refl _)⟩
def OkS (S : Snd) (k : Nat) : Prop := OutOk S ∧ S.p.l.length ≤ 5 ∧ 0 ≤ S.n ∧ S.n ≤ k
theorem ok_send {S : Snd} {k : Nat} (h : OkS S k) (p : Pkt) : OkS (sendS S p) k := by
  refine ⟨h.1.send p, ?_⟩
  unfold sendS
  split
  · exact ⟨h.2.1, Int.le_refl 0, Int.natCast_nonneg _⟩
  · exact h.2
theorem ok_stop {S : Snd} {k : Nat} (h : OkS S k) (b : Bool) : OkS (stopS S b) k := by
  refine ⟨OutOk.stop S b, ?_, Int.le_refl 0, Int.natCast_nonneg _⟩
  unfold stopS
  cases b
  · exact Nat.le_of_ble_eq_true rfl
  · simp only [if_true]
    split
    · exact h.2.1
    · exact h.1.len
theorem ok_ack {S : Snd} {k : Nat} (h : OkS S k) (p : Pkt) : OkS (ackS S p) k := by
  unfold ackS
  split
  · exact ok_stop h true
  · exact h
theorem ok_touch {S : Snd} {k : Nat} (h : OkS S k) (l : List Pt) : OkS (touchS S l) k := by
  unfold touchS
  split
  · exact h
  · exact h
theorem out_b (g : Nat) (S : Snd) (w : World) (h : SndAt w g S) (hlo : S.o.l.length ≤ 5) (b : Bool) (hb : decide (S.o.k ≠ 0) = b) :
    Calls Try.prog 21 #[.pointer (some ⟨g, 0, none⟩)] w fun x w' => ∃ B9 m9 d9, x = .returned (.tuple #[.agg (pktA S.o.k S.o.e S.o.s (.slice B9 m9 d9)), .bool b]) ∧ PutsAt w' (.slice B9 m9 d9) S.o.l ∧ Below w.heap.size w w' := by
  subst hb
  exact out_any g S w h hlo
theorem early_b (g : Nat) (S : Snd) (w : World) (h : SndAt w g S) (hlo : S.p.l.length ≤ 5) (b : Bool) (hb : decide (S.p.k ≠ 0) = b) :
    Calls Try.prog 22 #[.pointer (some ⟨g, 0, none⟩)] w fun x w' => ∃ B9 m9 d9, x = .returned (.tuple #[.agg (pktA S.p.k S.p.e S.p.s (.slice B9 m9 d9)), .bool b]) ∧ PutsAt w' (.slice B9 m9 d9) S.p.l ∧ Below w.heap.size w w' := by
  subst hb
  exact early_any g S w h hlo
theorem ok_miss {S : Snd} {k : Nat} (h : OkS S k) (hn : S.n + 1 ≤ k) : OkS (missS S) k := by
  refine ⟨h.1.miss, ?_⟩
  unfold missS
  split
  · exact h.2
  · exact ⟨h.2.1, by have := h.2.2.1; show 0 ≤ S.n + 1; omega, hn⟩
set_option maxRecDepth 20000 in
set_option maxHeartbeats 6400000 in
theorem sdplays_walk (A0 : Option Addr) (n c0 : Nat) (l : List SR) (z : BitVec 16) (w : World) (h : StpsAt w (.slice A0 n c0) l) :
    Calls Try.prog 3 #[.slice A0 n c0, .int .u16 (hd z)] w fun x w' => x = .returned (.bool true) ∧ Below w.heap.size w w' := by
  have hln := stps_len h
  have HN9 : Hid (n ≤ maxLen) := Lib.hid (stps_max h)
  have HLE : Hid (LensAt w A0 n (lensOf l)) := Lib.hid (lens_at h)
  have HF := Lib.hid (fun k (hk : k < l.length) => stps_get h hk)
  have HLN := Lib.hid hln
  clear h hln
  have C := fairS_any A0 n c0 (lensOf l) w HLE.out HN9.out
  go_enter Try.func3, Try.ntmps3
  cases hfl : fairS n (lensOf l) with
  | false =>
    rw [hfl] at C
    go_wp2_with fail
    refine C.mono ?_
    rintro x w2 ⟨rfl, rfl⟩
    clear C hfl
    go_wp2_with fail
    refine (sndwakes_any w).mono ?_
    rintro x v9 ⟨rfl, hb9⟩
    go_wp2_with fail
    go_ret
    exact ⟨rfl, hb9⟩
  | true =>
  rw [hfl] at C
  have HFE : Hid ((∀ k < n, (lensOf l k).1 ≤ 50 ∧ (lensOf l k).2 ≤ 50) ∧ n ≤ 120) := Lib.hid (by
    unfold fairS at hfl
    simp only [Bool.and_eq_true, decide_eq_true_eq] at hfl
    exact hfl)
  clear hfl HLE HN9
  go_wp2_with fail
  refine C.mono ?_
  rintro x w2 ⟨rfl, rfl⟩
  clear C
  have HS := St.nil w noF
  go_upto_region 3 with fail
  go_upto_region 4 with (first | ((with_reducible refine wpList_plain ?_ ?_); exact rfl; intro KK hKK; refine wp_st_box HS 32 (.tmp 24) rfl _ rfl (sndC pkt0 pkt0 (.slice none 0 0) (.slice none 0 0) 0 false) (rfl) (fun g5 W1 HSx => hKK _ _ ?_); clear hKK KK HS; have HS : St w noF [⟨g5, 32, sndC pkt0 pkt0 (.slice none 0 0) (.slice none 0 0) 0 false⟩] W1 := HSx; clear HSx) | ((with_reducible refine wpList_plain ?_ ?_); exact rfl; intro KK hKK; refine wp_st_box HS 35 (.tmp 26) rfl _ rfl (rsnC false false pkt0 pkt0 (.slice none 0 0) (.slice none 0 0) 0 false) (rfl) (fun g6 W2 HSx => hKK _ _ ?_); clear hKK KK HS; have HS : St w noF [⟨g5, 32, sndC pkt0 pkt0 (.slice none 0 0) (.slice none 0 0) 0 false⟩, ⟨g6, 35, rsnC false false pkt0 pkt0 (.slice none 0 0) (.slice none 0 0) 0 false⟩] W2 := HSx; clear HSx))
  have HD0 : Hid (D24 w W2 g5 g6 snd0) := Lib.hid ⟨⟨none, 0, 0, none, 0, 0, HS.row 0 rfl, puts_nil _, puts_nil _⟩, ⟨none, 0, 0, none, 0, 0, false, false, HS.row 1 rfl, puts_nil _, puts_nil _, rfl, rfl⟩, HS.below, HS.apart 0 1 _ _ (by decide) rfl rfl, (HS.own 0 _ rfl).resolve_left (fun h => h), (HS.own 1 _ rfl).resolve_left (fun h => h)⟩
  clear HS
  go_wp2_with fail
  go_loopw [7] (fun i wr => ∃ (k : Nat) (S : Snd), k ≤ n ∧ i = .int .i64 k ∧ OkS S (k + 1) ∧ S.n ≤ k ∧ D24 w wr g5 g6 S) (fun i _ => n - (intOf i).toNat)
  case atStart => exact ⟨0, snd0, by omega, rfl, ⟨.inl rfl, by decide, by decide, by decide⟩, by decide, HD0.out⟩
  case round =>
    obtain ⟨k, S, hk, rfl, hok, hnk, hd⟩ := hrel
    have HD := Lib.hid hd
    have HOK := Lib.hid hok
    have HNK := Lib.hid hnk
    have HNB : Hid (0 ≤ S.n ∧ S.n ≤ 1000000) := Lib.hid (by have := hok.2.2.1; have := HFE.out.2; omega)
    have hn120 := HFE.out.2
    clear hok hd HD0 hnk
    by_cases hlt : k < n
    · obtain ⟨b, o, kd, pk, e, s, lp, lq, bb, A, m1, c1, B, m2, c2, hx, rfl, hbw, hr, hp1, hp2⟩ := HF.out k (by rw [HLN.out]; exact hlt)
      obtain ⟨O, hO⟩ : ∃ O, o + k * 7 = O := ⟨_, rfl⟩
      rw [hO] at hr
      have hL2 : lensOf l k = (lp.length, lq.length) := by unfold lensOf; rw [hx]
      have hf50 := HFE.out.1 k hlt
      rw [hL2] at hf50
      have HLP := Lib.hid hp1
      have HLQ := Lib.hid hp2
      have HM2 : Hid (lq.length = m2) := Lib.hid (puts_len hp2)
      have HLP6 : Hid (lp.length ≤ 1000000) := Lib.hid (by omega)
      have HLPM : Hid (lp.length ≤ maxLen) := Lib.hid (by unfold maxLen; omega)
      have HLQ6 : Hid (lq.length ≤ 1000000) := Lib.hid (by omega)
      have HRG : Hid (wr.rangeAt b O [.int .i64 kd, .int .i64 pk, .int .u32 (wd e), .int .u32 (wd s), .slice A m1 c1, .slice B m2 c2, .bool bb]) := Lib.hid fun j v hv => (HD.out.low.cell (p := ⟨b, O + j, none⟩) hbw).trans (hr j v hv)
      have hk0 : (0 : Int) ≤ (k : Int) := by omega
      have hk1 : (k : Int) < (n : Int) := by omega
      clear hx hr hbw hp1 hp2 hL2 hf50
      have HS := St.nil wr noF
      go_upto_region 8 with (first | ((with_reducible refine wpList_plain ?_ ?_); exact rfl; intro KK hKK; refine wp_load_mid 37 (.tmp 36) rfl b O rfl [.int .i64 kd, .int .i64 pk, .int .u32 (wd e), .int .u32 (wd s), .slice A m1 c1, .slice B m2 c2, .bool bb] _ HRG.out Try.underlying37 rfl (by exact size_stpP) (hKK _ _ ?_); clear hKK KK) | ((with_reducible refine wpList_plain ?_ ?_); exact rfl; intro KK hKK; refine wp_st_alloc HS 37 (stpA 0 0 0#32 0#32 (.slice none 0 0) (.slice none 0 0) false) rfl (.agg (stpA 0 0 0#32 0#32 (.slice none 0 0) (.slice none 0 0) false)) (by kernel_rfl) (rfl) (fun g8 W6 HSx => hKK _ _ ?_); clear hKK KK HS; have HS : St wr noF [⟨g8, 37, stpA 0 0 0#32 0#32 (.slice none 0 0) (.slice none 0 0) false⟩] W6 := HSx; clear HSx) | ((with_reducible refine wpList_plain ?_ ?_); exact rfl; intro KK hKK; refine wp_st_store HS 0 0 37 (.tmp 8) (.tmp 37) rfl rfl rfl (.agg (stpA kd pk e s (.slice A m1 c1) (.slice B m2 c2) bb)) rfl (by exact size_stpP) (Nat.le_refl 7) (stp_one ..) (stpA kd pk e s (.slice A m1 c1) (.slice B m2 c2) bb) (by exact spl_agg _ _ _ rfl rfl) (fun W7 HSx => hKK _ _ ?_); clear hKK KK HS; have HS : St wr noF [⟨g8, 37, stpA kd pk e s (.slice A m1 c1) (.slice B m2 c2) bb⟩] W7 := HSx; clear HSx))
      clear hk0 hk1 hO
      have HDx : Hid (Duo24 w g5 g6 g8 (stpA kd pk e s (.slice A m1 c1) (.slice B m2 c2) bb) S S W7) := Lib.hid (by
        have hg8 : wr.heap.size ≤ g8 := (HS.own 0 ⟨g8, 37, stpA kd pk e s (.slice A m1 c1) (.slice B m2 c2) bb⟩ rfl).resolve_left (fun h => h)
        have h5 := HD.out.snd.lt
        have h6 := HD.out.rsn.lt
        have hdc := HD.out.call HS.below
        exact ⟨hdc.snd, hdc.rsn, HS.row 0 rfl, hdc.low, hdc.ne, hdc.gg, hdc.kk, by omega, by omega⟩)
      have c8 : W7.cell? ⟨g8, 0, none⟩ = some (.int .i64 kd) := HDx.out.row.get rfl
      clear HD HS HRG
      have HD := HDx
      clear HDx
      go_upto_block 2 with fail
      clear c8
      go_cut [] (fun wx => ∃ S1, OkS S1 (k + 1) ∧ Duo24 w g5 g6 g8 (stpA kd pk e s (.slice A m1 c1) (.slice B m2 c2) bb) S1 S1 wx)
      case first =>
        have HOKx := HOK
        clear HOK
        have HOK := HOKx
        clear HOKx
        by_cases h0 : kd = 0
        · have e0 : (kd == 0) = true := beq_iff_eq.2 h0
          clear h0
          go_upto_region 10 with fail
          have hF0 : Wl [(fun W => Duo24 w g5 g6 g8 (stpA kd pk e s (.slice A m1 c1) (.slice B m2 c2) bb) S S W), (fun W => Duo24 w g5 g6 g8 (stpA kd pk e s (.slice A m1 c1) (.slice B m2 c2) bb) (sendS S ⟨pk, e, s, lp⟩) S W), (fun W => Duo24 w g5 g6 g8 (stpA kd pk e s (.slice A m1 c1) (.slice B m2 c2) bb) (sendS S ⟨pk, e, s, lp⟩) (sendS S ⟨pk, e, s, lp⟩) W)] 0 (World.drew _) := HD.out.call (Below.refl _ _).drew
          refine wp_region_phs [is (.pointer (some ⟨g5, 0, none⟩)), is (.pointer (some ⟨g8, 1, none⟩)), is (.agg (pktA pk e s (.slice A m1 c1))), (fun v W => ∃ B9 m9 d9, v = Value.agg (pktA pk e s (.slice B9 m9 d9)) ∧ PutsAt W (.slice B9 m9 d9) lp), is (.int .i64 (sendE S ⟨pk, e, s, lp⟩)), is (.pointer (some ⟨g6, 0, none⟩)), is (.pointer (some ⟨g8, 1, none⟩)), is (.agg (pktA pk e s (.slice A m1 c1))), (fun v W => ∃ B9 m9 d9, v = Value.agg (pktA pk e s (.slice B9 m9 d9)) ∧ PutsAt W (.slice B9 m9 d9) lp), is (.int .i64 (sendE S ⟨pk, e, s, lp⟩)), is (.bool false)] [true, true, true, false, true, true, true, true, false, true, true] [(fun W => Duo24 w g5 g6 g8 (stpA kd pk e s (.slice A m1 c1) (.slice B m2 c2) bb) S S W), (fun W => Duo24 w g5 g6 g8 (stpA kd pk e s (.slice A m1 c1) (.slice B m2 c2) bb) (sendS S ⟨pk, e, s, lp⟩) S W), (fun W => Duo24 w g5 g6 g8 (stpA kd pk e s (.slice A m1 c1) (.slice B m2 c2) bb) (sendS S ⟨pk, e, s, lp⟩) (sendS S ⟨pk, e, s, lp⟩) W)] [false, false, false, false, true, false, false, false, false, true, false] [some 0, some 0, some 0, some 0, some 0, none, none, none, some 1, some 1, some 2] [some 42, some 43, some 44, some 45, some 46, some 47, some 48, some 49, some 50, some 51, some 52] 11 2 (fun _ => true) rfl rfl (by kernel_rfl) (by kernel_rfl) (by kernel_rfl) (by kernel_rfl) ?_ ?_ ?_ ?_ ?_ ?_
          · repeat first | exact wok_nil | refine wok_cons (by first | exact fun _ _ h k => h.call k) ?_
          · repeat first | exact vok_nil | refine vok_rig (by first | exact fun _ _ _ h => h) ?_ | refine vok_soft (by first | exact fun _ _ _ h _ => h | exact fun _ _ _ h k => ⟨h.choose, h.choose_spec.choose, h.choose_spec.choose_spec.choose, h.choose_spec.choose_spec.choose_spec.1, h.choose_spec.choose_spec.choose_spec.2.below k (Nat.le_refl _)⟩) ?_
          · exact hF0
          · repeat first | exact all_end (by decide) | refine all_cons (by first | exact rfl | exact ⟨rfl, fun _ _ h => Or.inl h⟩ | exact ⟨rfl, fun _ _ h => Or.inr ⟨h, rfl⟩⟩) ?_
          · refine allp_mild 0 rfl rfl rfl (fun a x_ W hout hin hP => ?_) ?_
            · have e5 : a.tmps[5]? = some (.pointer (some ⟨g5, 0, none⟩)) := (hout 5 (by kernel_rfl)).trans rfl
              exact does_move rfl e5 ⟨Same.refl _, rfl⟩
            refine allp_mild 0 rfl rfl rfl (fun a x_ W hout hin hP => ?_) ?_
            · have e8 : a.tmps[8]? = some (.pointer (some ⟨g8, 0, none⟩)) := (hout 8 (by kernel_rfl)).trans rfl
              clear hP
              clear hin hout
              intro K Q hK
              go_simp
              exact hK _ _ ⟨Same.refl _, rfl⟩
            refine allp_mild 0 rfl rfl rfl (fun a x_ W hout hin hP => ?_) ?_
            · have e43 := hin.is 1 43 (by kernel_rfl) (by decide) (by kernel_rfl) (by kernel_rfl) _ rfl
              have hr := hP.row
              clear hin hout
              intro K Q hK
              exact wp_load_mid 30 (.tmp 43) rfl g8 1 (eval_of_get e43) (pktA pk e s (.slice A m1 c1)).toList _ (hr.slab 1 _ rfl) Try.underlying30 rfl (by exact size_pkt) (hK _ _ ⟨Same.refl _, rfl⟩)
            refine allp_mild 0 rfl rfl rfl (fun a x_ W hout hin hP => ?_) ?_
            · have e44 := hin.is 2 44 (by kernel_rfl) (by decide) (by kernel_rfl) (by kernel_rfl) _ rfl
              have C := own24_any pk e s A m1 c1 lp W (HLP.out.below hP.low (Nat.le_refl _)) HLP6.out
              clear hP
              clear hin hout
              intro K Q hK
              go_simp
              refine C.mono ?_
              rintro x W' ⟨B9, m9, d9, rfl, hp9, hb⟩
              exact hK _ _ ⟨hb, B9, m9, d9, rfl, hp9⟩
            refine allp_wild 0 rfl rfl rfl (fun a x_ W hout hin hP => ?_) ?_
            · have e42 := hin.is 0 42 (by kernel_rfl) (by decide) (by kernel_rfl) (by kernel_rfl) _ rfl
              obtain ⟨v45, e45, hv45⟩ := hin.get 3 45 (by kernel_rfl) (by decide) (by kernel_rfl) (.inr ⟨rfl, by kernel_rfl⟩)
              obtain ⟨B9, m9, d9, rfl, hp9⟩ := hv45
              have C := send_any g5 S ⟨pk, e, s, lp⟩ B9 m9 d9 W hP.snd hp9 HLPM.out
              simp only at C
              have hPP := hP
              clear hP hp9
              clear hin hout
              intro K Q hK
              go_simp
              refine C.mono ?_
              rintro x W' ⟨rfl, hs, hc⟩
              exact hK _ _ ⟨hPP.left hs hc, rfl⟩
            refine allp_pure rfl rfl (fun a x_ W hout hin => ?_) ?_
            · have e6 : a.tmps[6]? = some (.pointer (some ⟨g6, 0, none⟩)) := (hout 6 (by kernel_rfl)).trans rfl
              exact does_move rfl e6 ⟨rfl, rfl⟩
            refine allp_pure rfl rfl (fun a x_ W hout hin => ?_) ?_
            · have e8 : a.tmps[8]? = some (.pointer (some ⟨g8, 0, none⟩)) := (hout 8 (by kernel_rfl)).trans rfl
              clear hin hout
              intro K Q hK
              go_simp
              exact hK _ _ ⟨rfl, rfl⟩
            refine allp_any rfl rfl (fun a x_ W hout hin hP => ?_) ?_
            · have e48 := hin.is 6 48 (by kernel_rfl) (by decide) (by kernel_rfl) (by kernel_rfl) _ rfl
              have hr : Row W g8 37 (stpA kd pk e s (.slice A m1 c1) (.slice B m2 c2) bb) := wl_any (S := fun W => Row W g8 37 (stpA kd pk e s (.slice A m1 c1) (.slice B m2 c2) bb)) (fun F hF W9 hFW => by simp only [List.mem_cons, List.not_mem_nil, or_false] at hF; rcases hF with rfl | rfl | rfl <;> exact hFW.row) hP
              clear hP hin hout
              intro K Q hK
              exact wp_load_mid 30 (.tmp 48) rfl g8 1 (eval_of_get e48) (pktA pk e s (.slice A m1 c1)).toList _ (hr.slab 1 _ rfl) Try.underlying30 rfl (by exact size_pkt) (hK _ _ ⟨rfl, rfl⟩)
            refine allp_mild 1 rfl rfl rfl (fun a x_ W hout hin hP => ?_) ?_
            · have e49 := hin.is 7 49 (by kernel_rfl) (by decide) (by kernel_rfl) (by kernel_rfl) _ rfl
              have C := own24_any pk e s A m1 c1 lp W (HLP.out.below hP.low (Nat.le_refl _)) HLP6.out
              clear hP
              clear hin hout
              intro K Q hK
              go_simp
              refine C.mono ?_
              rintro x W' ⟨B9, m9, d9, rfl, hp9, hb⟩
              exact hK _ _ ⟨hb, B9, m9, d9, rfl, hp9⟩
            refine allp_wild 1 rfl rfl rfl (fun a x_ W hout hin hP => ?_) ?_
            · have e47 := hin.is 5 47 (by kernel_rfl) (by decide) (by kernel_rfl) (by kernel_rfl) _ rfl
              obtain ⟨v50, e50, hv50⟩ := hin.get 8 50 (by kernel_rfl) (by decide) (by kernel_rfl) (.inr ⟨rfl, by kernel_rfl⟩)
              obtain ⟨B9, m9, d9, rfl, hp9⟩ := hv50
              have C := rsend_any g6 S ⟨pk, e, s, lp⟩ B9 m9 d9 W hP.rsn hp9 HLPM.out
              simp only at C
              have hPP := hP
              clear hP hp9
              clear hin hout
              intro K Q hK
              go_simp
              refine C.mono ?_
              rintro x W' ⟨rfl, hs, hc⟩
              exact hK _ _ ⟨hPP.right hs hc, rfl⟩
            refine allp_mild 2 rfl rfl rfl (fun a x_ W hout hin hP => ?_) ?_
            · have e46 := hin.is 4 46 (by kernel_rfl) (by decide) (by kernel_rfl) (by kernel_rfl) _ rfl
              have e51 := hin.is 9 51 (by kernel_rfl) (by decide) (by kernel_rfl) (by kernel_rfl) _ rfl
              clear hP
              clear hin hout
              intro K Q hK
              go_simp
              exact hK _ _ ⟨Same.refl _, rfl⟩
            exact all_end (by decide)
          · intro x_ W hP hV
            have h10 : x_ 10 = .bool false := hV 10 (by decide) (.inl (by kernel_rfl))
            have HDX := Lib.hid hP
            clear hP hV
            simp only [putL, Act.put, List.setIfInBounds_toArray, List.set_cons_succ, List.set_cons_zero, h10]
            refine wpAnyH_done (by kernel_rfl) ?_ _
            clear h10
            go_wp2_with fail
            go_meet
            exact ⟨(sendS S ⟨pk, e, s, lp⟩), ok_send HOK.out _, HDX.out⟩
        by_cases h1 : kd = 1
        · have e0 : (kd == 0) = false := beq_eq_false_iff_ne.2 h0
          have e1 : (kd == 1) = true := beq_iff_eq.2 h1
          clear h0 h1
          have C := missed_any g5 S W7 HD.out.snd HNB.out
          go_wp2_with fail
          refine C.mono ?_
          rintro x va ⟨rfl, hs, hc⟩
          have HDva := Lib.hid (HD.out.left hs hc)
          clear C hs hc HD
          have C := rmissed_any g6 S va HDva.out.rsn HNB.out
          go_wp2_with fail
          refine C.mono ?_
          rintro x vb ⟨rfl, hs, hc⟩
          have HDvb := Lib.hid (HDva.out.right hs hc)
          clear C hs hc HDva
          go_wp2_with fail
          go_meet
          exact ⟨missS S, ok_miss HOK.out (by have := HNK.out; omega), HDvb.out⟩
        by_cases h2 : kd = 2
        · have e0 : (kd == 0) = false := beq_eq_false_iff_ne.2 h0
          have e1 : (kd == 1) = false := beq_eq_false_iff_ne.2 h1
          have e2 : (kd == 2) = true := beq_iff_eq.2 h2
          clear h0 h1 h2
          have c5 : (W7.alloc (.cells #[] 61)).cell? ⟨g8, 5, none⟩ = some (.slice B m2 c2) := (HD.out.row.alloc _).get rfl
          have HE : Hid (Row (W7.alloc (.cells #[] 61)) W7.heap.size 61 #[]) := Lib.hid (Row.fresh W7 61 #[])
          have HBA := Lib.hid ((Below.refl W7.heap.size W7).alloc (Nat.le_refl _) (.cells #[] 61))
          have HI := Lib.hid (HLQ.out.below (HD.out.low.trans (HBA.out.mono HD.out.low.size)) (Nat.le_refl _))
          have hm2 := HM2.out
          subst hm2
          go_wp2_with ((with_reducible refine wpList_plain ?_ ?_); exact rfl; intro KK hKK; refine wp_append_puts_own (.tmp 63) (.tmp 65) rfl W7.heap.size rfl HE.out B c2 lq rfl HI.out HLQ6.out (fun kv va hp hb5 hf _ => hKK _ _ ?_); clear hKK KK; obtain ⟨B9, m9, d9, rfl⟩ := hf; have HP := Lib.hid hp; have HDa := Lib.hid (HD.out.call (HBA.out.trans (hb5.mono HBA.out.size))); clear hp hb5 c5; have C := touch_any g5 S lq B9 m9 d9 va HDa.out.snd HOK.out.1 HP.out HLQ6.out)
          refine C.mono ?_
          rintro x vb ⟨rfl, hs, hc⟩
          have HDb := Lib.hid (HDa.out.left hs hc)
          have c5 : vb.cell? ⟨g8, 5, none⟩ = some (.slice B lq.length c2) := HDb.out.row.get rfl
          clear C hs hc HDa HP HE HBA HI
          have C := rtouch_any g6 S lq B lq.length c2 vb HDb.out.rsn HOK.out.1 (HLQ.out.below HDb.out.low (Nat.le_refl _)) HLQ6.out
          go_wp2_with fail
          refine C.mono ?_
          rintro x vc ⟨rfl, hs, hc⟩
          have HDc := Lib.hid (HDb.out.right hs hc)
          clear C hs hc HDb c5
          go_wp2_with fail
          go_meet
          exact ⟨touchS S lq, ok_touch HOK.out _, HDc.out⟩
        by_cases h3 : kd = 3
        · have e0 : (kd == 0) = false := beq_eq_false_iff_ne.2 h0
          have e1 : (kd == 1) = false := beq_eq_false_iff_ne.2 h1
          have e2 : (kd == 2) = false := beq_eq_false_iff_ne.2 h2
          have e3 : (kd == 3) = true := beq_iff_eq.2 h3
          clear h0 h1 h2 h3
          have C := own24_any pk e s A m1 c1 lp W7 (HLP.out.below HD.out.low (Nat.le_refl _)) HLP6.out
          obtain ⟨β1, hβ1⟩ : ∃ β, (ackB S ⟨pk, e, s, lp⟩ && S.t) = β := ⟨_, rfl⟩
          obtain ⟨β2, hβ2⟩ : ∃ β, ackB S ⟨pk, e, s, lp⟩ = β := ⟨_, rfl⟩
          have HB1 := Lib.hid hβ1
          have HB2 := Lib.hid hβ2
          clear hβ1 hβ2
          go_wp2_with (first | ((with_reducible refine wpList_plain ?_ ?_); exact rfl; intro KK hKK; refine wp_load_mid 30 (.tmp 76) rfl g8 1 rfl (pktA pk e s (.slice A m1 c1)).toList _ (HD.out.row.slab 1 _ rfl) Try.underlying30 rfl (by exact size_pkt) (hKK _ _ ?_); clear hKK KK))
          refine C.mono ?_
          rintro x va ⟨B9, m9, d9, rfl, _, hb⟩
          have HDa := Lib.hid (HD.out.call hb)
          clear C hb
          have C := acked_any g5 S ⟨pk, e, s, lp⟩ (.slice B9 m9 d9) va HDa.out.snd
          rw [HB1.out, HB2.out] at C
          simp only at C
          go_wp2_with fail
          refine C.mono ?_
          rintro x vb ⟨rfl, hs, hc⟩
          have HDb := Lib.hid (HDa.out.left hs hc)
          clear C hs hc HDa
          have C := racked_any g6 S ⟨pk, e, s, lp⟩ (.slice A m1 c1) vb HDb.out.rsn
          rw [HB1.out, HB2.out] at C
          simp only at C
          go_wp2_with (first | ((with_reducible refine wpList_plain ?_ ?_); exact rfl; intro KK hKK; refine wp_load_mid 30 (.tmp 84) rfl g8 1 rfl (pktA pk e s (.slice A m1 c1)).toList _ (HDb.out.row.slab 1 _ rfl) Try.underlying30 rfl (by exact size_pkt) (hKK _ _ ?_); clear hKK KK))
          refine C.mono ?_
          rintro x vc ⟨rfl, hs, hc⟩
          have HDc := Lib.hid (HDb.out.right hs hc)
          clear C hs hc HDb
          go_wp2_with fail
          go_meet
          exact ⟨ackS S ⟨pk, e, s, lp⟩, ok_ack HOK.out _, HDc.out⟩
        by_cases h4 : kd = 4
        · have e0 : (kd == 0) = false := beq_eq_false_iff_ne.2 h0
          have e1 : (kd == 1) = false := beq_eq_false_iff_ne.2 h1
          have e2 : (kd == 2) = false := beq_eq_false_iff_ne.2 h2
          have e3 : (kd == 3) = false := beq_eq_false_iff_ne.2 h3
          have e4 : (kd == 4) = true := beq_iff_eq.2 h4
          clear h0 h1 h2 h3 h4
          have c6 : W7.cell? ⟨g8, 6, none⟩ = some (.bool bb) := HD.out.row.get rfl
          have C := stop_any g5 S bb W7 HD.out.snd
          go_wp2_with fail
          refine C.mono ?_
          rintro x va ⟨rfl, hs, hc⟩
          have HDva := Lib.hid (HD.out.left hs hc)
          clear C hs hc HD
          clear c6
          have c6 : va.cell? ⟨g8, 6, none⟩ = some (.bool bb) := HDva.out.row.get rfl
          have C := rstop_any g6 S bb va HDva.out.rsn
          go_wp2_with fail
          refine C.mono ?_
          rintro x vb ⟨rfl, hs, hc⟩
          have HDvb := Lib.hid (HDva.out.right hs hc)
          clear C hs hc HDva
          go_wp2_with fail
          go_meet
          exact ⟨stopS S bb, ok_stop HOK.out _, HDvb.out⟩
        have e0 : (kd == 0) = false := beq_eq_false_iff_ne.2 h0
        have e1 : (kd == 1) = false := beq_eq_false_iff_ne.2 h1
        have e2 : (kd == 2) = false := beq_eq_false_iff_ne.2 h2
        have e3 : (kd == 3) = false := beq_eq_false_iff_ne.2 h3
        have e4 : (kd == 4) = false := beq_eq_false_iff_ne.2 h4
        clear h0 h1 h2 h3 h4
        go_wp2_with fail
        go_meet
        exact ⟨S, ⟨HOK.out.1, HOK.out.2.1, HOK.out.2.2.1, HOK.out.2.2.2⟩, HD.out⟩
      case rest =>
        obtain ⟨S1, hok1, hd⟩ := hcut
        clear HD HOK HNB HNK HLP HLQ HM2 HLP6 HLPM HLQ6
        obtain ⟨A2, n2, c2, B2, m2, d2, iz, wz, hr2, hpo2, hpp2, hiz, hwz⟩ := hd.rsn
        have HRR := Lib.hid hr2
        have HPO2 := Lib.hid hpo2
        have HPP2 := Lib.hid hpp2
        have HDD : Hid (D24 w wc g5 g6 S1) := Lib.hid ⟨hd.snd, hd.rsn, hd.low, hd.ne, hd.gg, hd.kk⟩
        have HOK1 := Lib.hid hok1
        have HO6 : Hid (S1.o.l.length ≤ 1000000) := Lib.hid (by have := hok1.1.len; omega)
        have HP6 : Hid (S1.p.l.length ≤ 1000000) := Lib.hid (by have := hok1.2.1; omega)
        have C1 := out_b g5 S1 wc hd.snd hok1.1.len iz hiz.symm
        have CE := Lib.hid (fun W (hb : Below wc.heap.size wc W) => early_b g5 S1 W (hd.snd.call hb) hok1.2.1 wz hwz.symm)
        clear hr2 hpo2 hpp2 hiz hwz hd hok1
        go_wp2_with fail
        refine C1.mono ?_
        rintro x vo ⟨B3, m3, d3, rfl, hp3, hb⟩
        have HB3 := Lib.hid hb
        have HP3 := Lib.hid hp3
        clear C1 hb hp3
        have HT := St.nil vo noF
        go_upto_region 27 with (first | ((with_reducible refine wpList_plain ?_ ?_); exact rfl; intro KK hKK; refine wp_st_alloc HT 30 (pktA 0 0#32 0#32 (.slice none 0 0)) rfl (.agg (pktA 0 0#32 0#32 (.slice none 0 0))) (by kernel_rfl) (rfl) (fun g13 W34 HSx => hKK _ _ ?_); clear hKK KK HT; have HT : St vo noF [⟨g13, 30, pktA 0 0#32 0#32 (.slice none 0 0)⟩] W34 := HSx; clear HSx) | ((with_reducible refine wpList_plain ?_ ?_); exact rfl; intro KK hKK; refine wp_st_store HT 0 0 30 (.tmp 13) (.tmp 110) rfl rfl rfl (.agg (pktA S1.o.k S1.o.e S1.o.s (.slice B3 m3 d3))) rfl (by exact size_pkt) (Nat.le_refl 4) (pkt_one ..) (pktA S1.o.k S1.o.e S1.o.s (.slice B3 m3 d3)) (by exact spl_agg _ _ _ rfl rfl) (fun W35 HSx => hKK _ _ ?_); clear hKK KK HT; have HT : St vo noF [⟨g13, 30, pktA S1.o.k S1.o.e S1.o.s (.slice B3 m3 d3)⟩] W35 := HSx; clear HSx))
        have HBO := Lib.hid (HB3.out.trans (HT.below.mono HB3.out.size))
        have HR13 := Lib.hid (HT.row 0 rfl)
        have HP3x := Lib.hid (HP3.out.below HT.below (Nat.le_refl _))
        clear HT
        have C2 := CE.out _ HBO.out
        clear CE
        go_wp2_with fail
        refine C2.mono ?_
        rintro x ve ⟨B4, m4, d4, rfl, hp4, hb⟩
        have HB4 := Lib.hid (HBO.out.trans (hb.mono HBO.out.size))
        have HR13x := Lib.hid (HR13.out.call hb)
        have HP3y := Lib.hid (HP3x.out.below hb (Nat.le_refl _))
        have HP4 := Lib.hid hp4
        clear C2 hb hp4 HR13 HP3x HP3
        have HT := St.nil ve noF
        go_upto_region 28 with (first | ((with_reducible refine wpList_plain ?_ ?_); exact rfl; intro KK hKK; refine wp_st_alloc HT 30 (pktA 0 0#32 0#32 (.slice none 0 0)) rfl (.agg (pktA 0 0#32 0#32 (.slice none 0 0))) (by kernel_rfl) (rfl) (fun g15 W36 HSx => hKK _ _ ?_); clear hKK KK HT; have HT : St ve noF [⟨g15, 30, pktA 0 0#32 0#32 (.slice none 0 0)⟩] W36 := HSx; clear HSx) | ((with_reducible refine wpList_plain ?_ ?_); exact rfl; intro KK hKK; refine wp_st_store HT 0 0 30 (.tmp 15) (.tmp 115) rfl rfl rfl (.agg (pktA S1.p.k S1.p.e S1.p.s (.slice B4 m4 d4))) rfl (by exact size_pkt) (Nat.le_refl 4) (pkt_one ..) (pktA S1.p.k S1.p.e S1.p.s (.slice B4 m4 d4)) (by exact spl_agg _ _ _ rfl rfl) (fun W37 HSx => hKK _ _ ?_); clear hKK KK HT; have HT : St ve noF [⟨g15, 30, pktA S1.p.k S1.p.e S1.p.s (.slice B4 m4 d4)⟩] W37 := HSx; clear HSx))
        have HBE := Lib.hid (HB4.out.trans (HT.below.mono HB4.out.size))
        have hF0 : Wl [(fun W => Cmp24 w g5 g6 g13 g15 S1 (.slice A2 n2 c2) (.slice B2 m2 d2) (.slice B3 m3 d3) (.slice B4 m4 d4) iz wz W)] 0 (World.drew _) := (Cmp24.mk (HDD.out.call HBE.out) (HRR.out.call HBE.out) (HPO2.out.below HBE.out (Nat.le_refl _)) (HPP2.out.below HBE.out (Nat.le_refl _)) (HR13x.out.call HT.below) (HT.row 0 rfl) (HP3y.out.below HT.below (Nat.le_refl _)) (HP4.out.below HT.below (Nat.le_refl _))).call (Below.refl _ _).drew
        clear HT HR13x HP3y HP4 HB4 HBE HBO HB3 HRR HPO2 HPP2 HDD
        refine wp_region_phs [is (.bool iz), is (.pointer (some ⟨g6, 0, none⟩)), is (.pointer (some ⟨g6, 0, none⟩)), is (.pointer (some ⟨g6, 0, none⟩)), is (.bool iz), is (.bool false), is (.bool false), is (.bool wz), is (.pointer (some ⟨g6, 0, none⟩)), is (.pointer (some ⟨g6, 0, none⟩)), is (.pointer (some ⟨g6, 1, none⟩)), is (.bool wz), is (.bool false), is (.bool false), is (.bool false), is (.agg (pktA S1.o.k S1.o.e S1.o.s (.slice B3 m3 d3))), is (.pointer (some ⟨g6, 0, none⟩)), is (.pointer (some ⟨g6, 0, none⟩)), is (.pointer (some ⟨g6, 2, none⟩)), is (.agg (pktA S1.o.k S1.o.e S1.o.s (.slice A2 n2 c2))), is (.bool true), is (.bool false), is (.bool false), is (.bool false), is (.agg (pktA S1.p.k S1.p.e S1.p.s (.slice B4 m4 d4))), is (.pointer (some ⟨g6, 0, none⟩)), is (.pointer (some ⟨g6, 0, none⟩)), is (.pointer (some ⟨g6, 6, none⟩)), is (.agg (pktA S1.p.k S1.p.e S1.p.s (.slice B2 m2 d2))), is (.bool true), is (.bool false), is (.bool false)] [true, true, true, true, true, true, true, true, true, true, true, true, true, true, true, true, true, true, true, true, true, true, true, true, true, true, true, true, true, true, true, true] [(fun W => Cmp24 w g5 g6 g13 g15 S1 (.slice A2 n2 c2) (.slice B2 m2 d2) (.slice B3 m3 d3) (.slice B4 m4 d4) iz wz W)] [false, false, false, false, false, false, false, false, false, false, false, false, false, false, false, false, false, false, false, false, false, false, false, false, false, false, false, false, false, false, false, false] [some 0, some 0, some 0, some 0, some 0, some 0, some 0, some 0, some 0, some 0, some 0, some 0, some 0, some 0, some 0, some 0, some 0, some 0, some 0, some 0, some 0, some 0, some 0, some 0, some 0, some 0, some 0, some 0, some 0, some 0, some 0, some 0] [some 117, some 118, some 119, some 120, some 121, some 122, some 123, some 124, some 125, some 126, some 127, some 128, some 129, some 130, some 131, some 132, some 133, some 134, some 135, some 136, some 137, some 138, some 139, some 140, some 141, some 142, some 143, some 144, some 145, some 146, some 147, some 148] 32 0 (fun _ => true) rfl rfl (by kernel_rfl) (by kernel_rfl) (by kernel_rfl) (by kernel_rfl) ?_ ?_ ?_ ?_ ?_ ?_
        · repeat first | exact wok_nil | refine wok_cons (by first | exact fun _ _ h k => h.call k) ?_
        · repeat first | exact vok_nil | refine vok_rig (by first | exact fun _ _ _ h => h) ?_ | refine vok_soft (by first | exact fun _ _ _ h _ => h) ?_
        · exact hF0
        · repeat first | exact all_end (by decide) | refine all_cons (by first | exact rfl | exact ⟨rfl, fun _ _ h => Or.inl h⟩ | exact ⟨rfl, fun _ _ h => Or.inr ⟨h, rfl⟩⟩) ?_
        · refine allp_mild 0 rfl rfl rfl (fun a x_ W hout hin hP => ?_) ?_
          · have e14 : a.tmps[14]? = some (.bool iz) := (hout 14 (by kernel_rfl)).trans rfl
            exact does_move rfl e14 ⟨Same.refl _, rfl⟩
          refine allp_mild 0 rfl rfl rfl (fun a x_ W hout hin hP => ?_) ?_
          · have e6 : a.tmps[6]? = some (.pointer (some ⟨g6, 0, none⟩)) := (hout 6 (by kernel_rfl)).trans rfl
            exact does_move rfl e6 ⟨Same.refl _, rfl⟩
          refine allp_mild 0 rfl rfl rfl (fun a x_ W hout hin hP => ?_) ?_
          · have e118 := hin.is 1 118 (by kernel_rfl) (by decide) (by kernel_rfl) (by kernel_rfl) _ rfl
            clear hP
            clear hin hout
            intro K Q hK
            go_simp
            exact hK _ _ ⟨Same.refl _, rfl⟩
          refine allp_mild 0 rfl rfl rfl (fun a x_ W hout hin hP => ?_) ?_
          · have e119 := hin.is 2 119 (by kernel_rfl) (by decide) (by kernel_rfl) (by kernel_rfl) _ rfl
            clear hP
            clear hin hout
            intro K Q hK
            go_simp
            exact hK _ _ ⟨Same.refl _, rfl⟩
          refine allp_mild 0 rfl rfl rfl (fun a x_ W hout hin hP => ?_) ?_
          · have e120 := hin.is 3 120 (by kernel_rfl) (by decide) (by kernel_rfl) (by kernel_rfl) _ rfl
            have hc : W.cell? ⟨g6, 0, none⟩ = some (.bool iz) := hP.rr.get rfl
            clear hP
            clear hin hout
            intro K Q hK
            go_simp
            exact hK _ _ ⟨Same.refl _, rfl⟩
          refine allp_mild 0 rfl rfl rfl (fun a x_ W hout hin hP => ?_) ?_
          · have e117 := hin.is 0 117 (by kernel_rfl) (by decide) (by kernel_rfl) (by kernel_rfl) _ rfl
            have e121 := hin.is 4 121 (by kernel_rfl) (by decide) (by kernel_rfl) (by kernel_rfl) _ rfl
            clear hP
            clear hin hout
            intro K Q hK
            go_simp
            exact hK _ _ ⟨Same.refl _, rfl⟩
          refine allp_mild 0 rfl rfl rfl (fun a x_ W hout hin hP => ?_) ?_
          · have e122 := hin.is 5 122 (by kernel_rfl) (by decide) (by kernel_rfl) (by kernel_rfl) _ rfl
            exact does_move rfl e122 ⟨Same.refl _, rfl⟩
          refine allp_mild 0 rfl rfl rfl (fun a x_ W hout hin hP => ?_) ?_
          · have e16 : a.tmps[16]? = some (.bool wz) := (hout 16 (by kernel_rfl)).trans rfl
            exact does_move rfl e16 ⟨Same.refl _, rfl⟩
          refine allp_mild 0 rfl rfl rfl (fun a x_ W hout hin hP => ?_) ?_
          · have e6 : a.tmps[6]? = some (.pointer (some ⟨g6, 0, none⟩)) := (hout 6 (by kernel_rfl)).trans rfl
            exact does_move rfl e6 ⟨Same.refl _, rfl⟩
          refine allp_mild 0 rfl rfl rfl (fun a x_ W hout hin hP => ?_) ?_
          · have e125 := hin.is 8 125 (by kernel_rfl) (by decide) (by kernel_rfl) (by kernel_rfl) _ rfl
            clear hP
            clear hin hout
            intro K Q hK
            go_simp
            exact hK _ _ ⟨Same.refl _, rfl⟩
          refine allp_mild 0 rfl rfl rfl (fun a x_ W hout hin hP => ?_) ?_
          · have e126 := hin.is 9 126 (by kernel_rfl) (by decide) (by kernel_rfl) (by kernel_rfl) _ rfl
            clear hP
            clear hin hout
            intro K Q hK
            go_simp
            exact hK _ _ ⟨Same.refl _, rfl⟩
          refine allp_mild 0 rfl rfl rfl (fun a x_ W hout hin hP => ?_) ?_
          · have e127 := hin.is 10 127 (by kernel_rfl) (by decide) (by kernel_rfl) (by kernel_rfl) _ rfl
            have hc : W.cell? ⟨g6, 1, none⟩ = some (.bool wz) := hP.rr.get rfl
            clear hP
            clear hin hout
            intro K Q hK
            go_simp
            exact hK _ _ ⟨Same.refl _, rfl⟩
          refine allp_mild 0 rfl rfl rfl (fun a x_ W hout hin hP => ?_) ?_
          · have e124 := hin.is 7 124 (by kernel_rfl) (by decide) (by kernel_rfl) (by kernel_rfl) _ rfl
            have e128 := hin.is 11 128 (by kernel_rfl) (by decide) (by kernel_rfl) (by kernel_rfl) _ rfl
            clear hP
            clear hin hout
            intro K Q hK
            go_simp
            exact hK _ _ ⟨Same.refl _, rfl⟩
          refine allp_mild 0 rfl rfl rfl (fun a x_ W hout hin hP => ?_) ?_
          · have e123 := hin.is 6 123 (by kernel_rfl) (by decide) (by kernel_rfl) (by kernel_rfl) _ rfl
            have e129 := hin.is 12 129 (by kernel_rfl) (by decide) (by kernel_rfl) (by kernel_rfl) _ rfl
            exact does_pick rfl e123 ⟨Same.refl _, eval_of_get e129⟩
          refine allp_mild 0 rfl rfl rfl (fun a x_ W hout hin hP => ?_) ?_
          · have e130 := hin.is 13 130 (by kernel_rfl) (by decide) (by kernel_rfl) (by kernel_rfl) _ rfl
            exact does_move rfl e130 ⟨Same.refl _, rfl⟩
          refine allp_mild 0 rfl rfl rfl (fun a x_ W hout hin hP => ?_) ?_
          · have e13 : a.tmps[13]? = some (.pointer (some ⟨g13, 0, none⟩)) := (hout 13 (by kernel_rfl)).trans rfl
            clear hin hout
            intro K Q hK
            exact wp_load_mid 30 (.tmp 13) rfl g13 0 (eval_of_get e13) (pktA S1.o.k S1.o.e S1.o.s (.slice B3 m3 d3)).toList _ (hP.ro.slab 0 _ rfl) Try.underlying30 rfl (by exact size_pkt) (hK _ _ ⟨Same.refl _, rfl⟩)
          refine allp_mild 0 rfl rfl rfl (fun a x_ W hout hin hP => ?_) ?_
          · have e6 : a.tmps[6]? = some (.pointer (some ⟨g6, 0, none⟩)) := (hout 6 (by kernel_rfl)).trans rfl
            exact does_move rfl e6 ⟨Same.refl _, rfl⟩
          refine allp_mild 0 rfl rfl rfl (fun a x_ W hout hin hP => ?_) ?_
          · have e133 := hin.is 16 133 (by kernel_rfl) (by decide) (by kernel_rfl) (by kernel_rfl) _ rfl
            clear hP
            clear hin hout
            intro K Q hK
            go_simp
            exact hK _ _ ⟨Same.refl _, rfl⟩
          refine allp_mild 0 rfl rfl rfl (fun a x_ W hout hin hP => ?_) ?_
          · have e134 := hin.is 17 134 (by kernel_rfl) (by decide) (by kernel_rfl) (by kernel_rfl) _ rfl
            clear hP
            clear hin hout
            intro K Q hK
            go_simp
            exact hK _ _ ⟨Same.refl _, rfl⟩
          refine allp_mild 0 rfl rfl rfl (fun a x_ W hout hin hP => ?_) ?_
          · have e135 := hin.is 18 135 (by kernel_rfl) (by decide) (by kernel_rfl) (by kernel_rfl) _ rfl
            clear hin hout
            intro K Q hK
            exact wp_load_mid 30 (.tmp 135) rfl g6 2 (eval_of_get e135) (pktA S1.o.k S1.o.e S1.o.s (.slice A2 n2 c2)).toList _ (hP.rr.slab 2 _ rfl) Try.underlying30 rfl (by exact size_pkt) (hK _ _ ⟨Same.refl _, rfl⟩)
          refine allp_mild 0 rfl rfl rfl (fun a x_ W hout hin hP => ?_) ?_
          · have e132 := hin.is 15 132 (by kernel_rfl) (by decide) (by kernel_rfl) (by kernel_rfl) _ rfl
            have e136 := hin.is 19 136 (by kernel_rfl) (by decide) (by kernel_rfl) (by kernel_rfl) _ rfl
            have C := packets_same S1.o.k S1.o.e S1.o.s S1.o.l _ _ _ _ _ _ W hP.po3 hP.po2 HO6.out
            clear hP
            clear hin hout
            intro K Q hK
            go_simp
            refine C.mono ?_
            rintro x W' ⟨rfl, hb⟩
            exact hK _ _ ⟨hb, rfl⟩
          refine allp_mild 0 rfl rfl rfl (fun a x_ W hout hin hP => ?_) ?_
          · have e137 := hin.is 20 137 (by kernel_rfl) (by decide) (by kernel_rfl) (by kernel_rfl) _ rfl
            exact does_not rfl e137 ⟨Same.refl _, rfl⟩
          refine allp_mild 0 rfl rfl rfl (fun a x_ W hout hin hP => ?_) ?_
          · have e131 := hin.is 14 131 (by kernel_rfl) (by decide) (by kernel_rfl) (by kernel_rfl) _ rfl
            have e138 := hin.is 21 138 (by kernel_rfl) (by decide) (by kernel_rfl) (by kernel_rfl) _ rfl
            exact does_pick rfl e131 ⟨Same.refl _, eval_of_get e138⟩
          refine allp_mild 0 rfl rfl rfl (fun a x_ W hout hin hP => ?_) ?_
          · have e139 := hin.is 22 139 (by kernel_rfl) (by decide) (by kernel_rfl) (by kernel_rfl) _ rfl
            exact does_move rfl e139 ⟨Same.refl _, rfl⟩
          refine allp_mild 0 rfl rfl rfl (fun a x_ W hout hin hP => ?_) ?_
          · have e15 : a.tmps[15]? = some (.pointer (some ⟨g15, 0, none⟩)) := (hout 15 (by kernel_rfl)).trans rfl
            clear hin hout
            intro K Q hK
            exact wp_load_mid 30 (.tmp 15) rfl g15 0 (eval_of_get e15) (pktA S1.p.k S1.p.e S1.p.s (.slice B4 m4 d4)).toList _ (hP.re.slab 0 _ rfl) Try.underlying30 rfl (by exact size_pkt) (hK _ _ ⟨Same.refl _, rfl⟩)
          refine allp_mild 0 rfl rfl rfl (fun a x_ W hout hin hP => ?_) ?_
          · have e6 : a.tmps[6]? = some (.pointer (some ⟨g6, 0, none⟩)) := (hout 6 (by kernel_rfl)).trans rfl
            exact does_move rfl e6 ⟨Same.refl _, rfl⟩
          refine allp_mild 0 rfl rfl rfl (fun a x_ W hout hin hP => ?_) ?_
          · have e142 := hin.is 25 142 (by kernel_rfl) (by decide) (by kernel_rfl) (by kernel_rfl) _ rfl
            clear hP
            clear hin hout
            intro K Q hK
            go_simp
            exact hK _ _ ⟨Same.refl _, rfl⟩
          refine allp_mild 0 rfl rfl rfl (fun a x_ W hout hin hP => ?_) ?_
          · have e143 := hin.is 26 143 (by kernel_rfl) (by decide) (by kernel_rfl) (by kernel_rfl) _ rfl
            clear hP
            clear hin hout
            intro K Q hK
            go_simp
            exact hK _ _ ⟨Same.refl _, rfl⟩
          refine allp_mild 0 rfl rfl rfl (fun a x_ W hout hin hP => ?_) ?_
          · have e144 := hin.is 27 144 (by kernel_rfl) (by decide) (by kernel_rfl) (by kernel_rfl) _ rfl
            clear hin hout
            intro K Q hK
            exact wp_load_mid 30 (.tmp 144) rfl g6 6 (eval_of_get e144) (pktA S1.p.k S1.p.e S1.p.s (.slice B2 m2 d2)).toList _ (hP.rr.slab 6 _ rfl) Try.underlying30 rfl (by exact size_pkt) (hK _ _ ⟨Same.refl _, rfl⟩)
          refine allp_mild 0 rfl rfl rfl (fun a x_ W hout hin hP => ?_) ?_
          · have e141 := hin.is 24 141 (by kernel_rfl) (by decide) (by kernel_rfl) (by kernel_rfl) _ rfl
            have e145 := hin.is 28 145 (by kernel_rfl) (by decide) (by kernel_rfl) (by kernel_rfl) _ rfl
            have C := packets_same S1.p.k S1.p.e S1.p.s S1.p.l _ _ _ _ _ _ W hP.pp4 hP.pp2 HP6.out
            clear hP
            clear hin hout
            intro K Q hK
            go_simp
            refine C.mono ?_
            rintro x W' ⟨rfl, hb⟩
            exact hK _ _ ⟨hb, rfl⟩
          refine allp_mild 0 rfl rfl rfl (fun a x_ W hout hin hP => ?_) ?_
          · have e146 := hin.is 29 146 (by kernel_rfl) (by decide) (by kernel_rfl) (by kernel_rfl) _ rfl
            exact does_not rfl e146 ⟨Same.refl _, rfl⟩
          refine allp_mild 0 rfl rfl rfl (fun a x_ W hout hin hP => ?_) ?_
          · have e140 := hin.is 23 140 (by kernel_rfl) (by decide) (by kernel_rfl) (by kernel_rfl) _ rfl
            have e147 := hin.is 30 147 (by kernel_rfl) (by decide) (by kernel_rfl) (by kernel_rfl) _ rfl
            exact does_pick rfl e140 ⟨Same.refl _, eval_of_get e147⟩
          exact all_end (by decide)
        · intro x_ W hP hV
          have h31 : x_ 31 = .bool false := hV 31 (by decide) (.inl (by kernel_rfl))
          have HQ := Lib.hid hP
          clear hP hV
          simp only [putL, Act.put, List.setIfInBounds_toArray, List.set_cons_succ, List.set_cons_zero, h31]
          simp only [Nat.zero_add, Nat.reduceAdd]
          refine wpAnyH_done (by kernel_rfl) ?_ _
          clear h31
          go_wp2_with fail
          exact ⟨⟨k + 1, S1, by omega, by go_num, ⟨HOK1.out.1, HOK1.out.2.1, HOK1.out.2.2.1, by have := HOK1.out.2.2.2; omega⟩, by have := HOK1.out.2.2.2; omega, HQ.out.dd⟩, by simp [intOf]; omega⟩
    · obtain rfl : k = n := by omega
      have hk1 : ¬ ((k : Int) < (k : Int)) := by omega
      have HLOW := Lib.hid HD.out.low
      have CP := pick_any z wr
      have CR := rpick_any z wr
      clear HD HOK HNB HNK
      cases hB : pickB z with
      | true =>
        have hI : pickI z = (pickK z : Int) := by unfold pickI; rw [hB]; rfl
        obtain ⟨K, hK⟩ : ∃ K, pickK z = K := ⟨_, rfl⟩
        rw [hB] at CP
        rw [hI, hK] at CR
        rw [hK] at CP
        have hd0 : decide ((0 : Int) ≤ (K : Int)) = true := decide_eq_true (by omega)
        have hd1 : (0 : Int) ≤ (K : Int) := by omega
        clear hI hK hB
        go_wp2_with fail
        refine CP.mono ?_
        rintro x v1 ⟨rfl, rfl⟩
        go_wp2_with fail
        refine CR.mono ?_
        rintro x v2 ⟨rfl, rfl⟩
        clear CP CR
        go_wp2_with fail
        refine (sndwakes_any _).mono ?_
        rintro x v9 ⟨rfl, hb9⟩
        go_wp2_with fail
        go_ret
        exact ⟨rfl, HLOW.out.trans (hb9.mono HLOW.out.size)⟩
      | false =>
        have hI : pickI z = -1 := by unfold pickI; rw [hB]; rfl
        have hK0 : pickK z = 0 := by
          unfold pickB at hB
          simp only [Bool.or_eq_false_iff, decide_eq_false_iff_not, Decidable.not_not] at hB
          exact hB.1
        rw [hB, hK0] at CP
        rw [hI] at CR
        clear hI hK0 hB
        go_wp2_with fail
        refine CP.mono ?_
        rintro x v1 ⟨rfl, rfl⟩
        go_wp2_with fail
        refine CR.mono ?_
        rintro x v2 ⟨rfl, rfl⟩
        clear CP CR
        go_wp2_with fail
        refine (sndwakes_any _).mono ?_
        rintro x v9 ⟨rfl, hb9⟩
        go_wp2_with fail
        go_ret
        exact ⟨rfl, HLOW.out.trans (hb9.mono HLOW.out.size)⟩
theorem sdplays_n (A0 : Option Addr) (n c0 : Nat) (l : List SR) (x : Int) (w : World) (h : StpsAt w (.slice A0 n c0) l) (hx : (Lit.int .u16 x).wf = true) :
    Calls Try.prog 3 #[.slice A0 n c0, .int .u16 x] w fun x w' => x = .returned (.bool true) ∧ Below w.heap.size w w' := by
  obtain ⟨m, rfl, hm⟩ := nat_u16 hx
  have e : (m : Int) = hd (BitVec.ofNat 16 m) := by unfold hd; rw [BitVec.toNat_ofNat]; omega
  rw [e]
  exact sdplays_walk A0 n c0 l _ w h
end Go.Proofs.Ytppbgkdkioldbaa

/- SenderPlays: for every list of steps and number of sixteen bits the call returns true and changes nothing that it was handed. Conditions: those of the row. -/
set_option maxRecDepth 4000
namespace Go.Proofs.Ytppbgkdkioldbaa.senderPlays
open Go Go.ChangeShapes Go.WideShapes Go.ChangeAt Go.RowKit

theorem contract (H : Type) (enc : TypeId × Value → H) (W : World) (base : Nat) (args : Array Value) (ds gs : List (DataW H)) (before : List MemPlace)
    (hval : ∀ (j : Nat) t v, Try.f3.params[j]? = some t → args[j]? = some v → Value.okWide Try.prog W .any base t v)
    (hW : DataW.Whole enc Try.prog Try.f3.params.toList Rows.senderPlaysSpec.vars false W args.toList ds gs before) :
    Calls Try.prog 3 args W fun e W' => ∃ v, e = .returned v ∧ Rows.senderPlaysSpec.post enc Try.prog Try.f3 false true false false W args v W' := by
  have hW' := hW
  obtain ⟨p, q, hA0, hV, rfl, _, _⟩ := hW
  have hA : DataW.TrodAll enc Try.prog W 0 (fun _ => true) true Try.f3.params.toList args.toList ds p := hA0
  rw [Try.params3] at hA hval
  obtain ⟨v0, vs0, d0, ds0, p0, q0, hargs, rfl, rfl, h0, r0⟩ := trodAll_cons hA
  obtain ⟨v1, vs1, d1, ds1, p1, q1, rfl, rfl, rfl, h1, r1⟩ := trodAll_cons r0
  obtain ⟨rfl, rfl, rfl⟩ := trodAll_nil r1
  obtain rfl : args = #[v0, v1] := by cases args; simp_all
  obtain ⟨rfl, rfl⟩ := trodVars_none hV
  have hlt0 : ∀ x ∈ p0, x.block < W.heap.size := fun x hx => hW'.lt x (by simp [hx])
  obtain ⟨A0, n0, c0, l0, rfl, hS0⟩ := open_stps (hval 0 22 v0 rfl rfl) h0 hlt0
  obtain ⟨n1, rfl, rfl, rfl, wn1⟩ := open_int Try.underlying23 (hval 1 23 v1 rfl rfl) h1
  refine (sdplays_n A0 n0 c0 l0 n1 W hS0 wn1).mono fun e W' ⟨he, hb⟩ => ?_
  subst he
  exact ⟨_, rfl, [d0, .lit (.int .u16 n1)], [], _, [], _, [], hW', trodAll_cons_mk (shut_bool Try.underlying4 _) trodAll_mk0, trodAll_cons_mk (Below.trod laidOutT (by kernel_rfl) (of_decide_eq_true (by kernel_rfl)) h0 hb hlt0) (trodAll_cons_mk (shut_int Try.underlying23 wn1) trodAll_mk0), rfl, hb.frame _, fun h => by cases h⟩

set_option maxRecDepth 100000 in
theorem lifted (os : Os) (started : os.Started) (H : Type) (enc : TypeId × Value → H) :
    ReturnsInHanded {} Try.checked os 3 .any (Rows.senderPlaysSpec.pre6 enc Try.prog Try.f3 Rows.senderPlaysRow.domain false) (Rows.senderPlaysSpec.post enc Try.prog Try.f3 false true false false) := by
  refine returnsInHanded_of_change (C := Try.checked) ownK started (by kernel_rfl) Try.func3
    (ChangeSpec.witness6 (enc := enc) (C := Try.checked) false ⟨#[], #[.slice none 0 0, .int .u16 0], []⟩ 8 (by kernel_rfl) (by kernel_rfl) (by kernel_rfl) (by kernel_rfl)) ?_
  intro W base args ds gs before hval hW _ _
  exact contract H enc W base args ds gs before hval hW

theorem said : Rows.SenderPlaysSaid :=
  OpenClaim.holds_of_wide 3 Try.f3 rfl rfl rfl rfl rfl rfl rfl ⟨rfl, rfl, rfl, rfl, rfl⟩ rfl rfl rfl rfl rfl (by kernel_rfl) Try.func3 (by kernel_rfl)
    (of_decide_eq_true (by kernel_rfl)) (by unfold Func.isWrapper; first | (rw [if_pos (by decide +kernel)]; kernel_rfl) | (rw [if_neg (by decide +kernel)]; exact ⟨rfl, rfl⟩))
    (fun os started H enc _ => lifted os started H enc)
end Go.Proofs.Ytppbgkdkioldbaa.senderPlays
