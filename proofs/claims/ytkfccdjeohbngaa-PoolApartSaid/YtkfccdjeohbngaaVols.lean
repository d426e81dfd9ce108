/- Volumes as they lie in memory: a slice of them, opened, taken apart, laid. No function of the program is named here. -/
import Derived.Test.YtkfccdjeohbngaaInts
set_option maxRecDepth 4000
namespace Go.Proofs.Ytkfccdjeohbngaa
open Go Go.ChangeShapes Go.WideShapes Go.ChangeAt Go.RowKit
abbrev Vl := ByteArray × List Int
def rdVol : Rd Vl := rdMap (fun x => (x.1, x.2.1)) (rdCons 1 rdStr (rdCons 1 (rdSl 1 (rdInt .i64)) rdNil))
def VolsAt (w : World) (v : Value) (l : List Vl) : Prop := rdSl 2 rdVol w [v] l
theorem stays_vol : rdVol.Stays := stays_map (stays_cons' stays_str (stays_cons' (stays_sl (stays_int _)) stays_rnil))
theorem VolsAt.below {w w' : World} {v : Value} {l : List Vl} {B : Nat} (h : VolsAt w v l) (hb : Below B w w') (hB : w.heap.size ≤ B) : VolsAt w' v l := stays_sl stays_vol B w w' _ _ h hb hB
theorem vols_len {w : World} {A : Option Addr} {n c : Nat} {l : List Vl} (h : VolsAt w (.slice A n c) l) : l.length = n := by
  obtain ⟨A', c', e1, _⟩ := h
  have e1 : Value.slice A n c = .slice A' l.length c' := by simpa using e1
  injection e1 with _ e1 _
  exact e1.symm
/- one volume's cells -/
def VolAt (w : World) (ds : List Value) (x : Vl) : Prop := ∃ A c, ds = [.string x.1, .slice A x.2.length c] ∧ IntsAt w (.slice A x.2.length c) x.2 ∧ x.1.size ≤ maxLen
theorem vol_cells {w : World} {ds : List Value} {x : Vl} (h : rdVol w ds x) : VolAt w ds x := by
  obtain ⟨⟨s, L, _⟩, h, rfl⟩ := h
  obtain ⟨c0, d0, rfl, _, ⟨rfl, hs⟩, c1, d1, rfl, _, h1, h2⟩ := h
  have h2 : d1 = [] := h2
  subst h2
  obtain ⟨A, c, rfl, _⟩ := id h1
  exact ⟨A, c, rfl, h1, hs⟩
theorem vol_rd {w : World} {ds : List Value} {x : Vl} (h : VolAt w ds x) : rdVol w ds x := by
  obtain ⟨A, c, rfl, h1, h2⟩ := h
  exact ⟨(x.1, x.2, ()), ⟨_, _, rfl, rfl, ⟨rfl, h2⟩, _, [], rfl, rfl, h1, rfl⟩, rfl⟩
theorem VolAt.below {w w' : World} {ds : List Value} {x : Vl} {B : Nat} (h : VolAt w ds x) (hb : Below B w w') (hB : w.heap.size ≤ B) : VolAt w' ds x := vol_cells (stays_vol B w w' _ _ (vol_rd h) hb hB)
theorem vols_get {w : World} {A : Option Addr} {n c : Nat} {l : List Vl} (h : VolsAt w (.slice A n c) l) {k : Nat} (hk : k < l.length) :
    ∃ b o s L B m c', l[k]? = some (s, L) ∧ A = some ⟨b, o, none⟩ ∧ b < w.heap.size ∧ w.rangeAt b (o + k * 2) [.string s, .slice B m c'] ∧ IntsAt w (.slice B m c') L ∧ L.length = m ∧ s.size ≤ maxLen := by
  obtain ⟨A', c', e1, _, _, _, h5⟩ := h
  have e1 : Value.slice A n c = .slice A' l.length c' := by simpa using e1
  injection e1 with e1 _ _
  subst e1
  obtain ⟨b, o, h6, h7, h8⟩ := h5 (by rintro rfl; simp at hk)
  obtain ⟨x, hx⟩ : ∃ x, l[k]? = some x := ⟨_, List.getElem?_eq_getElem hk⟩
  obtain ⟨ds, _, h10, h11⟩ := h8 k x hx
  obtain ⟨B, c2, rfl, h12, h13⟩ := vol_cells h11
  obtain ⟨s, L⟩ := x
  exact ⟨b, o, s, L, B, _, c2, hx, h6, h7, h10, h12, rfl, h13⟩
/- a block of volumes of one's own -/
theorem vols_row {w : World} {g c : Nat} {t : TypeId} {cs : Array Value} {l : List Vl} (h : Row w g t cs) (hc : l.length ≤ c) (hm : l.length ≤ maxLen) (hl : ∀ k x, l[k]? = some x → VolAt w ((cs.toList.drop (k * 2)).take 2) x) : VolsAt w (.slice (some ⟨g, 0, none⟩) l.length c) l :=
  ⟨_, c, rfl, hc, fun h => (by cases h), hm, fun _ => ⟨g, 0, rfl, h.lt, fun k x hx => ⟨(cs.toList.drop (k * 2)).take 2, by
    obtain ⟨A, c, e, _⟩ := hl k x hx
    rw [e]; rfl, fun j v hv => by
    rw [Nat.zero_add]
    refine h.get ?_
    obtain ⟨hj, _⟩ := List.getElem?_eq_some_iff.1 hv
    rw [← Array.getElem?_toList]
    rw [List.length_take] at hj
    rw [List.getElem?_take_of_lt (by omega), List.getElem?_drop] at hv
    exact hv, vol_rd (hl k x hx)⟩⟩⟩
theorem vols_none (w : World) : VolsAt w (.slice none 0 0) [] := ⟨none, 0, rfl, Nat.le_refl _, fun _ => rfl, by decide, fun h => absurd rfl h⟩
/- an argument that is a slice of volumes -/
theorem cellsV_int : Try.prog.cellsOf 3 = 1 := by kernel_rfl
theorem cellsV_str : Try.prog.cellsOf 9 = 1 := by kernel_rfl
theorem cellsV_ints : Try.prog.cellsOf 26 = 1 := by kernel_rfl
theorem cellsV_vol : Try.prog.cellsOf 42 = 2 := by kernel_rfl
theorem opens_vol : Opens Try.prog 42 rdVol :=
  opens_map (opens_struct Try.underlying42 (by kernel_rfl) (opensF_cons rfl cellsV_str (opens_str Try.underlying9) (opensF_cons rfl cellsV_ints (opens_sl Try.underlying26 cellsV_int (by decide) (opens_int Try.underlying3)) opensF_nil)))
theorem opens_vols : Opens Try.prog 22 (rdSl 2 rdVol) := opens_sl Try.underlying22 cellsV_vol (by decide) opens_vol
theorem open_vols {H : Type} {enc : TypeId × Value → H} {W : World} {r : Reach} {base : Nat} {v : Value} {d : DataW H} {ps : List MemPlace} (hval : Value.okWide Try.prog W r base 22 v)
    (h : DataW.Trod enc Try.prog W 0 (fun _ => true) true 22 v d ps) (hlt : ∀ x ∈ ps, x.block < W.heap.size) :
    ∃ A n c l, v = .slice A n c ∧ VolsAt W (.slice A n c) l ∧ n ≤ maxLen := by
  obtain ⟨A, c, l, e, hx⟩ := open_argSl Try.underlying22 opens_vols hval h hlt
  obtain ⟨_, _, _, _, _, h4, _⟩ := id hx
  exact ⟨A, _, c, l, e, hx, h4⟩
end Go.Proofs.Ytkfccdjeohbngaa
