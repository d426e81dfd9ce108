/-
  DERIVED. GIVEN WITH THE SEED: THE CARDS: each row of YtieoakdlehpgiaaDoorRows.lean that lists a variable, with what it lists TIED to the program's text (the seventh form; the later family's looks); each row that meets fmt, with fmt's text TOLD by the authors' own Lean function (tested against real Go, not proved from fmt's source: count such statements apart). THE CARD IS WHAT COUNTS. Prove the row's statement (the work); the ties are given (YtieoakdlehpgiaaDoorTie.lean); close each card by the builder's one call (the guide's Derived/Test/ToyasCard.lean, 'card_holds'). Laid BY PROGRAM, IN A SANDBOX (cutbox-door.mjs). By AI agents, Wed Nov 11 2026. No macro, syntax, notation, axiom, sorry.
-/
import Derived.Test.YtieoakdlehpgiaaDoorRows
import GoSem.ClaimSeven
namespace Go.Proofs.YtieoakdlehpgiaaDoor
namespace Rows

/-- THE TIED CARD OF 'tollhouselaw02.MacTags'. -/
def macTagsCard : Claim7 := { stood := { row := macTagsRow, standIns := [], harness := (true, "395632356ff88fe5a3b2084757cbb9a85e808deae633dc3b6caeb184336e5fa6"), looks := false }, kinds := [], alts := [], laidByText := true, laidKinds := [.data], laidTests := true, laidLooks := .later }
def MacTagsCardSaid : Prop := Claim7.holds Tryd.pinned (.plain (OpenSpec.ofChange macTagsSpec)) macTagsCard

/-- THE TIED CARD OF 'tollhouselaw02.MacKeys'. -/
def macKeysCard : Claim7 := { stood := { row := macKeysRow, standIns := [], harness := (true, "395632356ff88fe5a3b2084757cbb9a85e808deae633dc3b6caeb184336e5fa6"), looks := false }, kinds := [], alts := [], laidByText := true, laidKinds := [.data], laidTests := true, laidLooks := .later }
def MacKeysCardSaid : Prop := Claim7.holds Tryd.pinned (.plain (OpenSpec.ofChange macKeysSpec)) macKeysCard

/-- THE TIED CARD OF 'tollhouselaw02.MacMakes'. -/
def macMakesCard : Claim7 := { stood := { row := macMakesRow, standIns := [], harness := (true, "395632356ff88fe5a3b2084757cbb9a85e808deae633dc3b6caeb184336e5fa6"), looks := false }, kinds := [], alts := [], laidByText := true, laidKinds := [.data], laidTests := true, laidLooks := .later }
def MacMakesCardSaid : Prop := Claim7.holds Tryd.pinned (.plain (OpenSpec.ofChange macMakesSpec)) macMakesCard

/-- THE SECOND FORM's CARD OF 'tollhouselaw02.MacTags'. -/
def macTagsUptoCard : Claim7 := { stood := { row := macTagsUptoRow, standIns := [], harness := (true, "395632356ff88fe5a3b2084757cbb9a85e808deae633dc3b6caeb184336e5fa6"), looks := false }, kinds := [], alts := [], laidByText := true, laidKinds := [.data], laidTests := true, laidLooks := .later }
def MacTagsUptoCardSaid : Prop := Claim7.holds Tryd.pinned (.plain (OpenSpec.upto macTagsSpec)) macTagsUptoCard

/-- THE SECOND FORM's CARD OF 'tollhouselaw02.MacKeys'. -/
def macKeysUptoCard : Claim7 := { stood := { row := macKeysUptoRow, standIns := [], harness := (true, "395632356ff88fe5a3b2084757cbb9a85e808deae633dc3b6caeb184336e5fa6"), looks := false }, kinds := [], alts := [], laidByText := true, laidKinds := [.data], laidTests := true, laidLooks := .later }
def MacKeysUptoCardSaid : Prop := Claim7.holds Tryd.pinned (.plain (OpenSpec.upto macKeysSpec)) macKeysUptoCard

/-- THE SECOND FORM's CARD OF 'tollhouselaw02.MacMakes'. -/
def macMakesUptoCard : Claim7 := { stood := { row := macMakesUptoRow, standIns := [], harness := (true, "395632356ff88fe5a3b2084757cbb9a85e808deae633dc3b6caeb184336e5fa6"), looks := false }, kinds := [], alts := [], laidByText := true, laidKinds := [.data], laidTests := true, laidLooks := .later }
def MacMakesUptoCardSaid : Prop := Claim7.holds Tryd.pinned (.plain (OpenSpec.upto macMakesSpec)) macMakesUptoCard
end Rows
end Go.Proofs.YtieoakdlehpgiaaDoor
