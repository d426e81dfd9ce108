/- A sender as a law has it; the law's sync. -/
import Derived.Test.YtppbgkdkioldbaaSndPrg5
set_option maxRecDepth 4000
namespace Go.Proofs.Ytppbgkdkioldbaa
open Go Go.RowKit
def Sit (w W : World) (g : Nat) (S : Snd) : Prop := SndAt W g S ∧ Below w.heap.size w W ∧ w.heap.size ≤ g
theorem Sit.call {w W W' : World} {g : Nat} {S : Snd} (h : Sit w W g S) (hb : Below W.heap.size W W') : Sit w W' g S := ⟨h.1.call hb, h.2.1.trans (hb.mono h.2.1.size), h.2.2⟩
theorem Sit.meth {w W W' : World} {g : Nat} {S S' : Snd} (h : Sit w W g S) (hs : SndAt W' g S') (hc : Chg (fun k => k = g) W W') : Sit w W' g S' :=
  ⟨hs, h.2.1.trans (hc.below (fun i hi => by rw [hi]; exact h.2.2) h.2.1.size), h.2.2⟩
theorem send_sit {w W : World} {g : Nat} {S : Snd} (h : Sit w W g S) (p : Pkt) (D : Option Addr) (q f : Nat) (hp : PutsAt W (.slice D q f) p.l) (hl : p.l.length ≤ maxLen) :
    Calls Try.prog 10 #[.pointer (some ⟨g, 0, none⟩), .agg (pktA p.k p.e p.s (.slice D q f))] W fun x W' => x = .returned (.int .i64 (sendE S p)) ∧ Sit w W' g (sendS S p) :=
  (send_any g S p D q f W h.1 hp hl).mono fun _ _ ⟨h1, h2, h3⟩ => ⟨h1, h.meth h2 h3⟩
theorem stop_sit {w W : World} {g : Nat} {S : Snd} (h : Sit w W g S) (b : Bool) : Calls Try.prog 19 #[.pointer (some ⟨g, 0, none⟩), .bool b] W fun x W' => x = .returned (.tuple #[]) ∧ Sit w W' g (stopS S b) :=
  (stop_any g S b W h.1).mono fun _ _ ⟨h1, h2, h3⟩ => ⟨h1, h.meth h2 h3⟩
theorem missed_sit {w W : World} {g : Nat} {S : Snd} (h : Sit w W g S) (hn : 0 ≤ S.n ∧ S.n ≤ 1000000) : Calls Try.prog 13 #[.pointer (some ⟨g, 0, none⟩)] W fun x W' => x = .returned (.int .i64 (missN S)) ∧ Sit w W' g (missS S) :=
  (missed_any g S W h.1 hn).mono fun _ _ ⟨h1, h2, h3⟩ => ⟨h1, h.meth h2 h3⟩
theorem acked_sit {w W : World} {g : Nat} {S : Snd} (h : Sit w W g S) (y : Pkt) (v : Value) : Calls Try.prog 17 #[.pointer (some ⟨g, 0, none⟩), .agg (pktA y.k y.e y.s v)] W fun x W' => x = .returned (.tuple #[.bool (ackB S y && S.t), .bool (ackB S y)]) ∧ Sit w W' g (ackS S y) :=
  (acked_any g S y v W h.1).mono fun _ _ ⟨h1, h2, h3⟩ => ⟨h1, h.meth h2 h3⟩
theorem touch_sit {w W : World} {g : Nat} {S : Snd} (h : Sit w W g S) (l : List Pt) (D : Option Addr) (q f : Nat) (hok : OutOk S) (hl : PutsAt W (.slice D q f) l) (hln : l.length ≤ 1000000) :
    Calls Try.prog 15 #[.pointer (some ⟨g, 0, none⟩), .slice D q f] W fun x W' => x = .returned (.tuple #[]) ∧ Sit w W' g (touchS S l) :=
  (touch_any g S l D q f W h.1 hok hl hln).mono fun _ _ ⟨h1, h2, h3⟩ => ⟨h1, h.meth h2 h3⟩
theorem out_sit {w W : World} {g : Nat} {S : Snd} (h : Sit w W g S) (hlo : S.o.l.length ≤ 5) :
    Calls Try.prog 21 #[.pointer (some ⟨g, 0, none⟩)] W fun x W' => ∃ B9 m9 d9, x = .returned (.tuple #[.agg (pktA S.o.k S.o.e S.o.s (.slice B9 m9 d9)), .bool (decide (S.o.k ≠ 0))]) ∧ PutsAt W' (.slice B9 m9 d9) S.o.l ∧ Sit w W' g S :=
  (out_any g S W h.1 hlo).mono fun _ _ ⟨B9, m9, d9, h1, h2, h3⟩ => ⟨B9, m9, d9, h1, h2, h.call h3⟩
theorem early_sit {w W : World} {g : Nat} {S : Snd} (h : Sit w W g S) (hlo : S.p.l.length ≤ 5) :
    Calls Try.prog 22 #[.pointer (some ⟨g, 0, none⟩)] W fun x W' => ∃ B9 m9 d9, x = .returned (.tuple #[.agg (pktA S.p.k S.p.e S.p.s (.slice B9 m9 d9)), .bool (decide (S.p.k ≠ 0))]) ∧ PutsAt W' (.slice B9 m9 d9) S.p.l ∧ Sit w W' g S :=
  (early_any g S W h.1 hlo).mono fun _ _ ⟨B9, m9, d9, h1, h2, h3⟩ => ⟨B9, m9, d9, h1, h2, h.call h3⟩
theorem sit_new (w W : World) (hb : Below w.heap.size w W) (cs : Array Value) (hcs : cs = sndC pkt0 pkt0 (.slice none 0 0) (.slice none 0 0) 0 false) : Sit w (W.alloc (.cells cs 32)) W.heap.size snd0 := by
  subst hcs
  exact ⟨⟨none, 0, 0, none, 0, 0, Row.fresh W 32 _, puts_nil _, puts_nil _⟩, hb.alloc hb.size _, hb.size⟩
def syncP (y : Int) (s : BitVec 32) : Pkt := ⟨2, 1#32, s, [(y, zer 32)]⟩
theorem put_fresh (W : World) (y : Int) (hy : -9223372036854775808 ≤ y ∧ y < 9223372036854775808) : PutsAt (W.alloc (.cells #[.int .i64 y, .int .u8 0, .int .u8 0, .int .u8 0, .int .u8 0, .int .u8 0, .int .u8 0, .int .u8 0, .int .u8 0, .int .u8 0, .int .u8 0, .int .u8 0, .int .u8 0, .int .u8 0, .int .u8 0, .int .u8 0, .int .u8 0, .int .u8 0, .int .u8 0, .int .u8 0, .int .u8 0, .int .u8 0, .int .u8 0, .int .u8 0, .int .u8 0, .int .u8 0, .int .u8 0, .int .u8 0, .int .u8 0, .int .u8 0, .int .u8 0, .int .u8 0, .int .u8 0] 61)) (.slice (some ⟨W.heap.size, 0, none⟩) 1 1) [(y, zer 32)] :=
  puts_one (x := (y, zer 32)) (Row.fresh W 61 _) ⟨length_zer 32, hy⟩
set_option maxHeartbeats 1600000 in
theorem sync_any (y : Int) (s : BitVec 32) (w : World) (hy : -9223372036854775808 ≤ y ∧ y < 9223372036854775808) :
    Calls Try.prog 26 #[.int .i64 y, .int .u32 (wd s)] w fun x w' => ∃ B m d, x = .returned (.agg (pktA 2 1#32 s (.slice B m d))) ∧ PutsAt w' (.slice B m d) [(y, zer 32)] ∧ Below w.heap.size w w' := by
  have HY := Lib.hid hy
  clear hy
  have HS := St.nil w noF
  go_enter Try.func26, Try.ntmps26
  go_upto_region 1 with (first | ((with_reducible refine wpList_plain ?_ ?_); exact rfl; intro KK hKK; refine wp_st_alloc HS 30 (pktA 0 0#32 0#32 (.slice none 0 0)) rfl (.agg (pktA 0 0#32 0#32 (.slice none 0 0))) (by kernel_rfl) (rfl) (fun g4 W1 HSx => hKK _ _ ?_); clear hKK KK HS; have HS : St w noF [⟨g4, 30, pktA 0 0#32 0#32 (.slice none 0 0)⟩] W1 := HSx; clear HSx))
  have HP := Lib.hid (put_fresh W1 y HY.out)
  have HB := Lib.hid ((Below.refl W1.heap.size W1).alloc (Nat.le_refl _) (.cells #[.int .i64 y, .int .u8 0, .int .u8 0, .int .u8 0, .int .u8 0, .int .u8 0, .int .u8 0, .int .u8 0, .int .u8 0, .int .u8 0, .int .u8 0, .int .u8 0, .int .u8 0, .int .u8 0, .int .u8 0, .int .u8 0, .int .u8 0, .int .u8 0, .int .u8 0, .int .u8 0, .int .u8 0, .int .u8 0, .int .u8 0, .int .u8 0, .int .u8 0, .int .u8 0, .int .u8 0, .int .u8 0, .int .u8 0, .int .u8 0, .int .u8 0, .int .u8 0, .int .u8 0] 61))
  have HSx := HS.same HB.out
  have HW := Lib.hid (HS.below.alloc HS.below.size (.cells #[.int .i64 y, .int .u8 0, .int .u8 0, .int .u8 0, .int .u8 0, .int .u8 0, .int .u8 0, .int .u8 0, .int .u8 0, .int .u8 0, .int .u8 0, .int .u8 0, .int .u8 0, .int .u8 0, .int .u8 0, .int .u8 0, .int .u8 0, .int .u8 0, .int .u8 0, .int .u8 0, .int .u8 0, .int .u8 0, .int .u8 0, .int .u8 0, .int .u8 0, .int .u8 0, .int .u8 0, .int .u8 0, .int .u8 0, .int .u8 0, .int .u8 0, .int .u8 0, .int .u8 0] 61))
  have HN : Hid (∃ t cs, Row (W1.alloc (.cells #[.int .i64 y, .int .u8 0, .int .u8 0, .int .u8 0, .int .u8 0, .int .u8 0, .int .u8 0, .int .u8 0, .int .u8 0, .int .u8 0, .int .u8 0, .int .u8 0, .int .u8 0, .int .u8 0, .int .u8 0, .int .u8 0, .int .u8 0, .int .u8 0, .int .u8 0, .int .u8 0, .int .u8 0, .int .u8 0, .int .u8 0, .int .u8 0, .int .u8 0, .int .u8 0, .int .u8 0, .int .u8 0, .int .u8 0, .int .u8 0, .int .u8 0, .int .u8 0, .int .u8 0] 61)) g4 t cs ∧ NoU8 cs) := Lib.hid ⟨30, pktA 0 0#32 0#32 (.slice none 0 0), HSx.row 0 rfl, nou8_pkt _ _ _ _ _ _⟩
  have HG : Hid (w.heap.size ≤ g4) := Lib.hid ((HSx.own 0 ⟨g4, 30, pktA 0 0#32 0#32 (.slice none 0 0)⟩ rfl).resolve_left (fun h => h))
  clear HS
  have HS := st_again (G := fun k => k = g4) HSx (fun k r hk => by match k, hk with | 0, hk => cases hk; rfl)
  clear HSx
  go_wp2_with (first | ((with_reducible refine wpList_plain ?_ ?_); exact rfl; intro KK hKK; refine wp_st_store HS 0 0 30 (.tmp 4) (.tmp 9) rfl rfl rfl (.agg (pktA 2 1#32 s (.slice (some ⟨W1.heap.size, 0, none⟩) 1 1))) rfl (by exact size_pkt) (Nat.le_refl 4) (pkt_one ..) (pktA 2 1#32 s (.slice (some ⟨W1.heap.size, 0, none⟩) 1 1)) (by exact spl_agg _ _ _ rfl rfl) (fun W6 HSx => hKK _ _ ?_); clear hKK KK HS; have HS : St (W1.alloc (.cells #[.int .i64 y, .int .u8 0, .int .u8 0, .int .u8 0, .int .u8 0, .int .u8 0, .int .u8 0, .int .u8 0, .int .u8 0, .int .u8 0, .int .u8 0, .int .u8 0, .int .u8 0, .int .u8 0, .int .u8 0, .int .u8 0, .int .u8 0, .int .u8 0, .int .u8 0, .int .u8 0, .int .u8 0, .int .u8 0, .int .u8 0, .int .u8 0, .int .u8 0, .int .u8 0, .int .u8 0, .int .u8 0, .int .u8 0, .int .u8 0, .int .u8 0, .int .u8 0, .int .u8 0] 61)) (fun k => k = g4) [⟨g4, 30, pktA 2 1#32 s (.slice (some ⟨W1.heap.size, 0, none⟩) 1 1)⟩] W6 := HSx; clear HSx))
  refine bodyPost_ret (results_cell_row Try.results26 _ _ g4 30 (pktA 2 1#32 s (.slice (some ⟨W1.heap.size, 0, none⟩) 1 1)) (0, 0) _ rfl (HS.row 0 rfl) Try.underlying30 rfl (by exact size_pkt)) rfl ?_
  exact ⟨_, _, _, rfl, puts_keep HP.out HS.chg (fun y hy _ => by rw [hy]; exact HN.out), HW.out.trans (HS.chg.below (fun i hi => by rw [hi]; exact HG.out) HW.out.size)⟩
end Go.Proofs.Ytppbgkdkioldbaa
