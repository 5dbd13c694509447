/-
  DERIVED. GIVEN WITH THE SEED: THE CARDS: each row of YtdppoblbenbafaaDoorRows.lean that lists a variable, with what it lists TIED to the program's text (the seventh form; the later family's looks); each row that meets fmt, with fmt's text TOLD by the authors' own Lean function (tested against real Go, not proved from fmt's source: count such statements apart). THE CARD IS WHAT COUNTS. Prove the row's statement (the work); the ties are given (YtdppoblbenbafaaDoorTie.lean); close each card by the builder's one call (the guide's Derived/Test/ToyasCard.lean, 'card_holds'). Laid BY PROGRAM, IN A SANDBOX (cutbox-door.mjs). By AI agents, Wed Nov 11 2026. No macro, syntax, notation, axiom, sorry.
-/
import Derived.Test.YtdppoblbenbafaaDoorRows
import GoSem.ClaimSeven
namespace Go.Proofs.YtdppoblbenbafaaDoor
namespace Rows

/-- THE TIED CARD OF 'patinalaw06.LirGoes'. -/
def lirGoesCard : Claim7 := { stood := { row := lirGoesRow, standIns := [], harness := (true, "2c7b0ac53a62c8f4c4a37231a5178396b3896e4519694b2046be8c4642bd5349"), looks := false }, kinds := [], alts := [], laidByText := true, laidKinds := [.data, .data, .data, .data], laidTests := true, laidLooks := .later }
def LirGoesCardSaid : Prop := Claim7.holds Tryd.pinned (.plain (OpenSpec.ofChange lirGoesSpec)) lirGoesCard

/-- THE TIED CARD OF 'patinalaw06.LirDefined'. -/
def lirDefinedCard : Claim7 := { stood := { row := lirDefinedRow, standIns := [], harness := (true, "2c7b0ac53a62c8f4c4a37231a5178396b3896e4519694b2046be8c4642bd5349"), looks := false }, kinds := [], alts := [], laidByText := true, laidKinds := [.data, .data, .data, .data], laidTests := true, laidLooks := .later }
def LirDefinedCardSaid : Prop := Claim7.holds Tryd.pinned (.plain (OpenSpec.ofChange lirDefinedSpec)) lirDefinedCard

/-- THE SECOND FORM's CARD OF 'patinalaw06.LirGoes'. -/
def lirGoesUptoCard : Claim7 := { stood := { row := lirGoesUptoRow, standIns := [], harness := (true, "2c7b0ac53a62c8f4c4a37231a5178396b3896e4519694b2046be8c4642bd5349"), looks := false }, kinds := [], alts := [], laidByText := true, laidKinds := [.data, .data, .data, .data], laidTests := true, laidLooks := .later }
def LirGoesUptoCardSaid : Prop := Claim7.holds Tryd.pinned (.plain (OpenSpec.upto lirGoesSpec)) lirGoesUptoCard

/-- THE SECOND FORM's CARD OF 'patinalaw06.LirDefined'. -/
def lirDefinedUptoCard : Claim7 := { stood := { row := lirDefinedUptoRow, standIns := [], harness := (true, "2c7b0ac53a62c8f4c4a37231a5178396b3896e4519694b2046be8c4642bd5349"), looks := false }, kinds := [], alts := [], laidByText := true, laidKinds := [.data, .data, .data, .data], laidTests := true, laidLooks := .later }
def LirDefinedUptoCardSaid : Prop := Claim7.holds Tryd.pinned (.plain (OpenSpec.upto lirDefinedSpec)) lirDefinedUptoCard
end Rows
end Go.Proofs.YtdppoblbenbafaaDoor
