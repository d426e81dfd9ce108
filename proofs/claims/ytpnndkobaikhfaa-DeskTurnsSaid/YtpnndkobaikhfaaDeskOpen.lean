/- Arguments of desk's statements opened: a desk, an asking, a list of these. -/
import Derived.Test.YtpnndkobaikhfaaDeskWakes
import Derived.Test.YtpnndkobaikhfaaReadW
import Derived.Test.YtpnndkobaikhfaaOpenN
set_option maxRecDepth 4000
namespace Go.Proofs.Ytpnndkobaikhfaa
open Go Go.ChangeShapes Go.WideShapes Go.ChangeAt Go.RowKit
structure Askd where
  n : Int
  up : Bool
  fo : Bool
  L : DLab
def askdC (X : Askd) : Array Value := #[.int .i64 X.n, .bool X.up, .bool X.fo, .int .u32 (wd X.L.e), .int .u32 (wd X.L.s), .int .u32 (wd X.L.n), .int .u16 (hd X.L.d), .int .u16 (hd X.L.l)]
theorem size_asked : (Try.prog.info? 29).map (·.size) = some 8 := by kernel_rfl
theorem one_asked (X : Askd) : (Value.agg (askdC X)).cells.all (·.oneCell') = true := by simp [Value.cells, askdC, Value.oneCell']
theorem cellsD_u32 : Try.prog.cellsOf 22 = 1 := by kernel_rfl
theorem cellsD_u16 : Try.prog.cellsOf 25 = 1 := by kernel_rfl
theorem cellsD_int : Try.prog.cellsOf 3 = 1 := by kernel_rfl
theorem cellsD_bool : Try.prog.cellsOf 4 = 1 := by kernel_rfl
theorem cellsD_lab : Try.prog.cellsOf 27 = 5 := by kernel_rfl
theorem cellsD_ask : Try.prog.cellsOf 29 = 8 := by kernel_rfl
def rdDsk : Rd Dsk := rdMap (fun x => ⟨x.1, x.2.1, x.2.2.1⟩) (rdCons 1 (rdInt .i64) (rdCons 1 rdU32 (rdCons 1 rdBool rdNil)))
def rdDLab : Rd DLab := rdMap (fun x => ⟨x.1, x.2.1, x.2.2.1, x.2.2.2.1, x.2.2.2.2.1⟩) (rdCons 1 rdU32 (rdCons 1 rdU32 (rdCons 1 rdU32 (rdCons 1 rdU16 (rdCons 1 rdU16 rdNil)))))
def rdAskd : Rd Askd := rdMap (fun x => ⟨x.1, x.2.1, x.2.2.1, x.2.2.2.1⟩) (rdCons 1 (rdInt .i64) (rdCons 1 rdBool (rdCons 1 rdBool (rdCons 5 rdDLab rdNil))))
theorem opens_dsk : Opens Try.prog 24 rdDsk :=
  opens_map (opens_struct Try.underlying24 (by kernel_rfl) (opensF_cons rfl cellsD_int (opens_int Try.underlying3) (opensF_cons rfl cellsD_u32 (opens_u32 Try.underlying22) (opensF_cons rfl cellsD_bool (opens_bool Try.underlying4) opensF_nil))))
theorem opens_dlab : Opens Try.prog 27 rdDLab :=
  opens_map (opens_struct Try.underlying27 (by kernel_rfl) (opensF_cons rfl cellsD_u32 (opens_u32 Try.underlying22) (opensF_cons rfl cellsD_u32 (opens_u32 Try.underlying22) (opensF_cons rfl cellsD_u32 (opens_u32 Try.underlying22) (opensF_cons rfl cellsD_u16 (opens_u16 Try.underlying25) (opensF_cons rfl cellsD_u16 (opens_u16 Try.underlying25) opensF_nil))))))
theorem opens_askd : Opens Try.prog 29 rdAskd :=
  opens_map (opens_struct Try.underlying29 (by kernel_rfl) (opensF_cons rfl cellsD_int (opens_int Try.underlying3) (opensF_cons rfl cellsD_bool (opens_bool Try.underlying4) (opensF_cons rfl cellsD_bool (opens_bool Try.underlying4) (opensF_cons rfl cellsD_lab opens_dlab opensF_nil)))))
theorem dsk_cells {w : World} {cs : List Value} {D : Dsk} (h : rdDsk w cs D) : cs = (dskC D).toList := by
  obtain ⟨⟨a, b, c, _⟩, h, rfl⟩ := h
  obtain ⟨c0, d0, rfl, _, ⟨h0, _⟩, c1, d1, rfl, _, h1, c2, d2, rfl, _, h2, h3⟩ := h
  have h0 : c0 = [.int .i64 a] := h0
  have h1 : c1 = [.int .u32 (wd b)] := h1
  have h2 : c2 = [.bool c] := h2
  have h3 : d2 = [] := h3
  subst h0 h1 h2 h3
  rfl
theorem dlab_cells {w : World} {cs : List Value} {L : DLab} (h : rdDLab w cs L) : cs = (dlabC L).toList := by
  obtain ⟨⟨a, b, c, d, e, _⟩, h, rfl⟩ := h
  obtain ⟨c0, d0, rfl, _, h0, c1, d1, rfl, _, h1, c2, d2, rfl, _, h2, c3, d3, rfl, _, h3, c4, d4, rfl, _, h4, h5⟩ := h
  have h0 : c0 = [.int .u32 (wd a)] := h0
  have h1 : c1 = [.int .u32 (wd b)] := h1
  have h2 : c2 = [.int .u32 (wd c)] := h2
  have h3 : c3 = [.int .u16 (hd d)] := h3
  have h4 : c4 = [.int .u16 (hd e)] := h4
  have h5 : d4 = [] := h5
  subst h0 h1 h2 h3 h4 h5
  rfl
theorem askd_cells {w : World} {cs : List Value} {X : Askd} (h : rdAskd w cs X) : cs = (askdC X).toList := by
  obtain ⟨⟨a, b, c, L, _⟩, h, rfl⟩ := h
  obtain ⟨c0, d0, rfl, _, ⟨h0, _⟩, c1, d1, rfl, _, h1, c2, d2, rfl, _, h2, c3, d3, rfl, _, h3, h4⟩ := h
  have h0 : c0 = [.int .i64 a] := h0
  have h1 : c1 = [.bool b] := h1
  have h2 : c2 = [.bool c] := h2
  have h3 : c3 = (dlabC L).toList := dlab_cells h3
  have h4 : d3 = [] := h4
  subst h0 h1 h2 h3 h4
  rfl
theorem open_dsk {H : Type} {enc : TypeId × Value → H} {W : World} {r : Reach} {base : Nat} {v : Value} {d : DataW H} {ps : List MemPlace} (hval : Value.okWide Try.prog W r base 24 v)
    (h : DataW.Trod enc Try.prog W 0 (fun _ => true) true 24 v d ps) (hlt : ∀ x ∈ ps, x.block < W.heap.size) : ∃ D, v = .agg (dskC D) := by
  obtain ⟨cs, D, rfl, hx⟩ := open_argRec Try.underlying24 opens_dsk hval h hlt
  exact ⟨D, by rw [dsk_cells hx]⟩
theorem open_askd {H : Type} {enc : TypeId × Value → H} {W : World} {r : Reach} {base : Nat} {v : Value} {d : DataW H} {ps : List MemPlace} (hval : Value.okWide Try.prog W r base 29 v)
    (h : DataW.Trod enc Try.prog W 0 (fun _ => true) true 29 v d ps) (hlt : ∀ x ∈ ps, x.block < W.heap.size) : ∃ X, v = .agg (askdC X) := by
  obtain ⟨cs, X, rfl, hx⟩ := open_argRec Try.underlying29 opens_askd hval h hlt
  exact ⟨X, by rw [askd_cells hx]⟩
/- a list of askings -/
def AsksAt (w : World) (v : Value) (l : List Askd) : Prop := rdSl 8 rdAskd w [v] l
theorem asks_len {w : World} {A : Option Addr} {n c : Nat} {l : List Askd} (h : AsksAt w (.slice A n c) l) : l.length = n := by
  obtain ⟨A', c', e1, _⟩ := h
  have e1 : Value.slice A n c = .slice A' l.length c' := by simpa using e1
  injection e1 with _ e1 _
  exact e1.symm
theorem asks_get {w : World} {A : Option Addr} {n c : Nat} {l : List Askd} (h : AsksAt w (.slice A n c) l) {k : Nat} (hk : k < l.length) :
    ∃ b o X, l[k]? = some X ∧ A = some ⟨b, o, none⟩ ∧ b < w.heap.size ∧ w.rangeAt b (o + k * 8) (askdC X).toList := by
  obtain ⟨A', c', e1, _, _, _, h5⟩ := h
  have e1 : Value.slice A n c = .slice A' l.length c' := by simpa using e1
  injection e1 with e1 _ _
  subst e1
  obtain ⟨b, o, h6, h7, h8⟩ := h5 (by rintro rfl; simp at hk)
  obtain ⟨x, hx⟩ : ∃ x, l[k]? = some x := ⟨_, List.getElem?_eq_getElem hk⟩
  obtain ⟨ds, _, h10, h11⟩ := h8 k x hx
  rw [askd_cells h11] at h10
  exact ⟨b, o, x, hx, h6, h7, h10⟩
theorem opens_asks : Opens Try.prog 42 (rdSl 8 rdAskd) := opens_sl Try.underlying42 cellsD_ask (by decide) opens_askd
theorem open_asks {H : Type} {enc : TypeId × Value → H} {W : World} {r : Reach} {base : Nat} {v : Value} {d : DataW H} {ps : List MemPlace} (hval : Value.okWide Try.prog W r base 42 v)
    (h : DataW.Trod enc Try.prog W 0 (fun _ => true) true 42 v d ps) (hlt : ∀ x ∈ ps, x.block < W.heap.size) :
    ∃ A n c l, v = .slice A n c ∧ AsksAt W (.slice A n c) l ∧ n ≤ maxLen := by
  obtain ⟨A, c, l, e, hx⟩ := open_argSl Try.underlying42 opens_asks hval h hlt
  obtain ⟨_, _, _, _, _, h4, _⟩ := id hx
  exact ⟨A, _, c, l, e, hx, h4⟩
end Go.Proofs.Ytpnndkobaikhfaa
