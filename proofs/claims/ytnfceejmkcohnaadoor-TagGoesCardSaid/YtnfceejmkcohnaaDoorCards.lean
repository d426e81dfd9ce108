/-
  DERIVED. GIVEN WITH THE SEED: THE CARDS: each row of YtnfceejmkcohnaaDoorRows.lean that lists a variable, with what it lists TIED to the program's text (the seventh form; the later family's looks); each row that meets fmt, with fmt's text TOLD by the authors' own Lean function (tested against real Go, not proved from fmt's source: count such statements apart). THE CARD IS WHAT COUNTS. Prove the row's statement (the work); the ties are given (YtnfceejmkcohnaaDoorTie.lean); close each card by the builder's one call (the guide's Derived/Test/ToyasCard.lean, 'card_holds'). Laid BY PROGRAM, IN A SANDBOX (cutbox-door.mjs). By AI agents, Wed Nov 11 2026. No macro, syntax, notation, axiom, sorry.
-/
import Derived.Test.YtnfceejmkcohnaaDoorRows
import GoSem.ClaimSeven
namespace Go.Proofs.YtnfceejmkcohnaaDoor
namespace Rows

/-- THE TIED CARD OF 'tollhouselaw03.TagTells'. -/
def tagTellsCard : Claim7 := { stood := { row := tagTellsRow, standIns := [], harness := (true, "e50228f99cf91cd53a1890cb38c29b65aeab2ddc2929c140951f2eded520aed3"), looks := false }, kinds := [], alts := [], laidByText := true, laidKinds := [.data], laidTests := true, laidLooks := .later }
def TagTellsCardSaid : Prop := Claim7.holds Tryd.pinned (.plain (OpenSpec.ofChange tagTellsSpec)) tagTellsCard

/-- THE TIED CARD OF 'tollhouselaw03.TagGoes'. -/
def tagGoesCard : Claim7 := { stood := { row := tagGoesRow, standIns := [], harness := (true, "e50228f99cf91cd53a1890cb38c29b65aeab2ddc2929c140951f2eded520aed3"), looks := false }, kinds := [], alts := [], laidByText := true, laidKinds := [.data], laidTests := true, laidLooks := .later }
def TagGoesCardSaid : Prop := Claim7.holds Tryd.pinned (.plain (OpenSpec.ofChange tagGoesSpec)) tagGoesCard

/-- THE TIED CARD OF 'tollhouselaw03.TagSame'. -/
def tagSameCard : Claim7 := { stood := { row := tagSameRow, standIns := [], harness := (true, "e50228f99cf91cd53a1890cb38c29b65aeab2ddc2929c140951f2eded520aed3"), looks := false }, kinds := [], alts := [], laidByText := true, laidKinds := [.data], laidTests := true, laidLooks := .later }
def TagSameCardSaid : Prop := Claim7.holds Tryd.pinned (.plain (OpenSpec.ofChange tagSameSpec)) tagSameCard

/-- THE TIED CARD OF 'tollhouselaw03.TagJoins'. -/
def tagJoinsCard : Claim7 := { stood := { row := tagJoinsRow, standIns := [], harness := (true, "e50228f99cf91cd53a1890cb38c29b65aeab2ddc2929c140951f2eded520aed3"), looks := false }, kinds := [], alts := [], laidByText := true, laidKinds := [.data], laidTests := true, laidLooks := .later }
def TagJoinsCardSaid : Prop := Claim7.holds Tryd.pinned (.plain (OpenSpec.ofChange tagJoinsSpec)) tagJoinsCard

/-- THE SECOND FORM's CARD OF 'tollhouselaw03.TagTells'. -/
def tagTellsUptoCard : Claim7 := { stood := { row := tagTellsUptoRow, standIns := [], harness := (true, "e50228f99cf91cd53a1890cb38c29b65aeab2ddc2929c140951f2eded520aed3"), looks := false }, kinds := [], alts := [], laidByText := true, laidKinds := [.data], laidTests := true, laidLooks := .later }
def TagTellsUptoCardSaid : Prop := Claim7.holds Tryd.pinned (.plain (OpenSpec.upto tagTellsSpec)) tagTellsUptoCard

/-- THE SECOND FORM's CARD OF 'tollhouselaw03.TagGoes'. -/
def tagGoesUptoCard : Claim7 := { stood := { row := tagGoesUptoRow, standIns := [], harness := (true, "e50228f99cf91cd53a1890cb38c29b65aeab2ddc2929c140951f2eded520aed3"), looks := false }, kinds := [], alts := [], laidByText := true, laidKinds := [.data], laidTests := true, laidLooks := .later }
def TagGoesUptoCardSaid : Prop := Claim7.holds Tryd.pinned (.plain (OpenSpec.upto tagGoesSpec)) tagGoesUptoCard

/-- THE SECOND FORM's CARD OF 'tollhouselaw03.TagSame'. -/
def tagSameUptoCard : Claim7 := { stood := { row := tagSameUptoRow, standIns := [], harness := (true, "e50228f99cf91cd53a1890cb38c29b65aeab2ddc2929c140951f2eded520aed3"), looks := false }, kinds := [], alts := [], laidByText := true, laidKinds := [.data], laidTests := true, laidLooks := .later }
def TagSameUptoCardSaid : Prop := Claim7.holds Tryd.pinned (.plain (OpenSpec.upto tagSameSpec)) tagSameUptoCard

/-- THE SECOND FORM's CARD OF 'tollhouselaw03.TagJoins'. -/
def tagJoinsUptoCard : Claim7 := { stood := { row := tagJoinsUptoRow, standIns := [], harness := (true, "e50228f99cf91cd53a1890cb38c29b65aeab2ddc2929c140951f2eded520aed3"), looks := false }, kinds := [], alts := [], laidByText := true, laidKinds := [.data], laidTests := true, laidLooks := .later }
def TagJoinsUptoCardSaid : Prop := Claim7.holds Tryd.pinned (.plain (OpenSpec.upto tagJoinsSpec)) tagJoinsUptoCard
end Rows
end Go.Proofs.YtnfceejmkcohnaaDoor
