/-
  DERIVED. GIVEN WITH THE SEED: THE CARDS: each row of YthkkoppnenfnfaaDoorRows.lean that lists a variable, with what it lists TIED to the program's text (the seventh form; the later family's looks); each row that meets fmt, with fmt's text TOLD by the authors' own Lean function (tested against real Go, not proved from fmt's source: count such statements apart). THE CARD IS WHAT COUNTS. Prove the row's statement (the work); the ties are given (YthkkoppnenfnfaaDoorTie.lean); close each card by the builder's one call (the guide's Derived/Test/ToyasCard.lean, 'card_holds'). Laid BY PROGRAM, IN A SANDBOX (cutbox-door.mjs). By AI agents, Wed Nov 11 2026. No macro, syntax, notation, axiom, sorry.
-/
import Derived.Test.YthkkoppnenfnfaaDoorRows
import GoSem.ClaimSeven
namespace Go.Proofs.YthkkoppnenfnfaaDoor
namespace Rows

/-- THE TIED CARD OF 'patinalaw06.LirBins'. -/
def lirBinsCard : Claim7 := { stood := { row := lirBinsRow, standIns := [], harness := (true, "47965aad91f951ae8a85603f1ebb19566574d8fdcf31a21253fb43dea5ef269f"), looks := false }, kinds := [], alts := [], laidByText := true, laidKinds := [.data, .data, .data, .data], laidTests := true, laidLooks := .later }
def LirBinsCardSaid : Prop := Claim7.holds Tryd.pinned (.plain (OpenSpec.ofChange lirBinsSpec)) lirBinsCard

/-- THE SECOND FORM's CARD OF 'patinalaw06.LirBins'. -/
def lirBinsUptoCard : Claim7 := { stood := { row := lirBinsUptoRow, standIns := [], harness := (true, "47965aad91f951ae8a85603f1ebb19566574d8fdcf31a21253fb43dea5ef269f"), looks := false }, kinds := [], alts := [], laidByText := true, laidKinds := [.data, .data, .data, .data], laidTests := true, laidLooks := .later }
def LirBinsUptoCardSaid : Prop := Claim7.holds Tryd.pinned (.plain (OpenSpec.upto lirBinsSpec)) lirBinsUptoCard
end Rows
end Go.Proofs.YthkkoppnenfnfaaDoor
