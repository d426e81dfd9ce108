/-
  DERIVED. GIVEN WITH THE SEED: THE CARDS: each row of YtobklbfcnbmnmaaDoorRows.lean that lists a variable, with what it lists TIED to the program's text (the seventh form; the later family's looks); each row that meets fmt, with fmt's text TOLD by the authors' own Lean function (tested against real Go, not proved from fmt's source: count such statements apart). THE CARD IS WHAT COUNTS. Prove the row's statement (the work); the ties are given (YtobklbfcnbmnmaaDoorTie.lean); close each card by the builder's one call (the guide's Derived/Test/ToyasCard.lean, 'card_holds'). Laid BY PROGRAM, IN A SANDBOX (cutbox-door.mjs). By AI agents, Wed Nov 11 2026. No macro, syntax, notation, axiom, sorry.
-/
import Derived.Test.YtobklbfcnbmnmaaDoorRows
import GoSem.ClaimSeven
namespace Go.Proofs.YtobklbfcnbmnmaaDoor
namespace Rows

/-- THE TIED CARD OF 'tollhouselaw16.AskCodes'. -/
def askCodesCard : Claim7 := { stood := { row := askCodesRow, standIns := [], harness := (true, "c4901991481105bf7b9e0af38290fea74e907dcf805563d57068e6c953ca61fc"), looks := false }, kinds := [], alts := [], laidByText := true, laidKinds := [.data, .pinned], laidTests := true, laidLooks := .later }
def AskCodesCardSaid : Prop := Claim7.holds Tryd.pinned (.plain (OpenSpec.ofChange askCodesSpec)) askCodesCard

/-- THE TIED CARD OF 'tollhouselaw16.AskTurns'. -/
def askTurnsCard : Claim7 := { stood := { row := askTurnsRow, standIns := [], harness := (true, "c4901991481105bf7b9e0af38290fea74e907dcf805563d57068e6c953ca61fc"), looks := false }, kinds := [], alts := [], laidByText := true, laidKinds := [.data, .pinned], laidTests := true, laidLooks := .later }
def AskTurnsCardSaid : Prop := Claim7.holds Tryd.pinned (.plain (OpenSpec.ofChange askTurnsSpec)) askTurnsCard

/-- THE TIED CARD OF 'tollhouselaw16.AskPlaces'. -/
def askPlacesCard : Claim7 := { stood := { row := askPlacesRow, standIns := [], harness := (true, "c4901991481105bf7b9e0af38290fea74e907dcf805563d57068e6c953ca61fc"), looks := false }, kinds := [], alts := [], laidByText := true, laidKinds := [.data, .pinned], laidTests := true, laidLooks := .later }
def AskPlacesCardSaid : Prop := Claim7.holds Tryd.pinned (.plain (OpenSpec.ofChange askPlacesSpec)) askPlacesCard

/-- THE SECOND FORM's CARD OF 'tollhouselaw16.AskCodes'. -/
def askCodesUptoCard : Claim7 := { stood := { row := askCodesUptoRow, standIns := [], harness := (true, "c4901991481105bf7b9e0af38290fea74e907dcf805563d57068e6c953ca61fc"), looks := false }, kinds := [], alts := [], laidByText := true, laidKinds := [.data, .pinned], laidTests := true, laidLooks := .later }
def AskCodesUptoCardSaid : Prop := Claim7.holds Tryd.pinned (.plain (OpenSpec.upto askCodesSpec)) askCodesUptoCard

/-- THE SECOND FORM's CARD OF 'tollhouselaw16.AskTurns'. -/
def askTurnsUptoCard : Claim7 := { stood := { row := askTurnsUptoRow, standIns := [], harness := (true, "c4901991481105bf7b9e0af38290fea74e907dcf805563d57068e6c953ca61fc"), looks := false }, kinds := [], alts := [], laidByText := true, laidKinds := [.data, .pinned], laidTests := true, laidLooks := .later }
def AskTurnsUptoCardSaid : Prop := Claim7.holds Tryd.pinned (.plain (OpenSpec.upto askTurnsSpec)) askTurnsUptoCard

/-- THE SECOND FORM's CARD OF 'tollhouselaw16.AskPlaces'. -/
def askPlacesUptoCard : Claim7 := { stood := { row := askPlacesUptoRow, standIns := [], harness := (true, "c4901991481105bf7b9e0af38290fea74e907dcf805563d57068e6c953ca61fc"), looks := false }, kinds := [], alts := [], laidByText := true, laidKinds := [.data, .pinned], laidTests := true, laidLooks := .later }
def AskPlacesUptoCardSaid : Prop := Claim7.holds Tryd.pinned (.plain (OpenSpec.upto askPlacesSpec)) askPlacesUptoCard
end Rows
end Go.Proofs.YtobklbfcnbmnmaaDoor
