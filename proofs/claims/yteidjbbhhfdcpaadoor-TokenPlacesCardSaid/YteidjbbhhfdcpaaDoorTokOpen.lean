/- Tokens that are handed in, opened. -/
import Derived.Test.YteidjbbhhfdcpaaDoorTokSpec
import Derived.Test.YteidjbbhhfdcpaaDoorReadW
set_option maxRecDepth 4000
namespace Go.Proofs.YteidjbbhhfdcpaaDoor
open Go Go.ChangeShapes Go.WideShapes Go.ChangeAt Go.RowKit
def tok0A : Array Value := #[Value.int .i64 0, Value.string ⟨#[]⟩, Value.int .i64 0, Value.int .u32 0, Value.int .u32 0] ++ bs (zer 32)
def rdClm : Rd (Int × ByteArray × Int × BitVec 32 × BitVec 32 × Unit) := rdCons 1 (rdInt .i64) (rdCons 1 rdStr (rdCons 1 (rdInt .i64) (rdCons 1 rdU32 (rdCons 1 rdU32 rdNil))))
def rdTok : Rd ((Int × ByteArray × Int × BitVec 32 × BitVec 32 × Unit) × List (BitVec 8) × Unit) := rdCons 5 rdClm (rdCons 32 (rdRow 32) rdNil)
theorem cellsI64t : Tryd.prog.cellsOf 3 = 1 := by kernel_rfl
theorem cellsStrt : Tryd.prog.cellsOf 9 = 1 := by kernel_rfl
theorem cellsU32t : Tryd.prog.cellsOf 22 = 1 := by kernel_rfl
theorem cellsClm : Tryd.prog.cellsOf 24 = 5 := by kernel_rfl
theorem cellsDig : Tryd.prog.cellsOf 26 = 32 := by kernel_rfl
theorem opens_clm : Opens Tryd.prog 24 rdClm :=
  opens_struct Tryd.underlying24 (by kernel_rfl) (opensF_cons rfl cellsI64t (opens_int Tryd.underlying3) (opensF_cons rfl cellsStrt (opens_str Tryd.underlying9) (opensF_cons rfl cellsI64t (opens_int Tryd.underlying3) (opensF_cons rfl cellsU32t (opens_u32 Tryd.underlying22) (opensF_cons rfl cellsU32t (opens_u32 Tryd.underlying22) opensF_nil)))))
theorem opens_tok : Opens Tryd.prog 28 rdTok :=
  opens_struct Tryd.underlying28 (by kernel_rfl) (opensF_cons rfl cellsClm opens_clm (opensF_cons rfl cellsDig (opens_row Tryd.underlying26 Tryd.underlying5 (by kernel_rfl) cellsDig) opensF_nil))
theorem clm_at {W : World} {ds : List Value} {x : Int × ByteArray × Int × BitVec 32 × BitVec 32 × Unit} (h : rdClm W ds x) : ∃ c : Clm, ds = (clmCells c).toList ∧ c.n.length ≤ maxLen := by
  obtain ⟨p, s, r, u, g, _⟩ := x
  obtain ⟨c0, d0, rfl, _, ⟨rfl, _⟩, c1, d1, rfl, _, ⟨rfl, hs⟩, c2, d2, rfl, _, ⟨rfl, _⟩, c3, d3, rfl, _, h3, c4, d4, rfl, _, h4, h5⟩ := h
  have h3 : c3 = [.int .u32 (wd u)] := h3
  have h4 : c4 = [.int .u32 (wd g)] := h4
  have h5 : d4 = [] := h5
  subst h3 h4 h5
  obtain ⟨q, hq⟩ := strB_all s
  simp only at hs hq
  refine ⟨⟨p, q, r, u, g⟩, ?_, ?_⟩
  · rw [hq]; rfl
  · rw [hq, strB_size] at hs; exact hs
theorem open_tok {H : Type} {enc : TypeId × Value → H} {W : World} {r : Reach} {base : Nat} {v : Value} {d : DataW H} {ps : List MemPlace} (hval : Value.okWide Tryd.prog W r base 28 v)
    (h : DataW.Trod enc Tryd.prog W 0 (fun _ => true) true 28 v d ps) (hlt : ∀ x ∈ ps, x.block < W.heap.size) :
    ∃ c q, v = .agg (tokCells c q) ∧ q.length = 32 ∧ c.n.length ≤ maxLen := by
  obtain ⟨cs, x, rfl, hx⟩ := open_argRec Tryd.underlying28 opens_tok hval h hlt
  obtain ⟨y, q, _⟩ := x
  obtain ⟨a0, b0, e, _, h0, a1, b1, e1, _, ⟨rfl, hq⟩, h2⟩ := hx
  have h2 : b1 = [] := h2
  subst h2
  obtain ⟨c, rfl, hn⟩ := clm_at h0
  refine ⟨c, q, ?_, hq, hn⟩
  rw [e, e1, List.append_nil]
  unfold tokCells
  congr 1
  apply Array.ext'
  simp [bs, bytesV]
end Go.Proofs.YteidjbbhhfdcpaaDoor
