/-
  DERIVED. GIVEN WITH THE SEED: THE CARDS: each row of YtdppoblbenbafaaGreatDoorRows.lean that lists a variable, with what it lists TIED to the program's text (the seventh form; the later family's looks); each row that meets fmt, with fmt's text TOLD by the authors' own Lean function (tested against real Go, not proved from fmt's source: count such statements apart). THE CARD IS WHAT COUNTS. Prove the row's statement (the work); the ties are given (YtdppoblbenbafaaGreatDoorTie.lean); close each card by the builder's one call (the guide's Derived/Test/ToyasCard.lean, 'card_holds'). Laid BY PROGRAM, IN A SANDBOX (cutbox-door.mjs). By AI agents, Wed Nov 11 2026. No macro, syntax, notation, axiom, sorry.
-/
import Derived.Test.YtdppoblbenbafaaGreatDoorRows
import GoSem.ClaimSeven
namespace Go.Proofs.YtdppoblbenbafaaGreatDoor
namespace Rows

/-- THE TIED CARD OF 'patinalaw06.LirChecks'. -/
def lirChecksCard : Claim7 := { stood := { row := lirChecksRow, standIns := [], harness := (true, "d4e713d9e8b8961e1f74690a0e14d9bf8d142435cd8bb79d65d5e176c2994ca9"), looks := false }, kinds := [], alts := [], laidByText := true, laidKinds := [.data, .data, .data, .data], laidTests := true, laidLooks := .later }
def LirChecksCardSaid : Prop := Claim7.holds Tryz.pinned (.plain (OpenSpec.ofChange lirChecksSpec)) lirChecksCard

/-- THE TIED CARD OF 'patinalaw06.LirRuns'. -/
def lirRunsCard : Claim7 := { stood := { row := lirRunsRow, standIns := [], harness := (true, "d4e713d9e8b8961e1f74690a0e14d9bf8d142435cd8bb79d65d5e176c2994ca9"), looks := false }, kinds := [], alts := [], laidByText := true, laidKinds := [.data, .data, .data, .data], laidTests := true, laidLooks := .later }
def LirRunsCardSaid : Prop := Claim7.holds Tryz.pinned (.plain (OpenSpec.ofChange lirRunsSpec)) lirRunsCard

/-- THE TIED CARD OF 'patinalaw06.LirTexts'. -/
def lirTextsCard : Claim7 := { stood := { row := lirTextsRow, standIns := [], harness := (true, "d4e713d9e8b8961e1f74690a0e14d9bf8d142435cd8bb79d65d5e176c2994ca9"), looks := false }, kinds := [], alts := [], laidByText := true, laidKinds := [.data, .data, .data, .data], laidTests := true, laidLooks := .later }
def LirTextsCardSaid : Prop := Claim7.holds Tryz.pinned (.plain (OpenSpec.ofChange lirTextsSpec)) lirTextsCard

/-- THE TIED CARD OF 'patinalaw06.LirTold'. -/
def lirToldCard : Claim7 := { stood := { row := lirToldRow, standIns := [], harness := (true, "d4e713d9e8b8961e1f74690a0e14d9bf8d142435cd8bb79d65d5e176c2994ca9"), looks := false }, kinds := [], alts := [], laidByText := true, laidKinds := [.data, .data, .data, .data], laidTests := true, laidLooks := .later }
def LirToldCardSaid : Prop := Claim7.holds Tryz.pinned (.plain (OpenSpec.ofChange lirToldSpec)) lirToldCard

/-- THE SECOND FORM's CARD OF 'patinalaw06.LirChecks'. -/
def lirChecksUptoCard : Claim7 := { stood := { row := lirChecksUptoRow, standIns := [], harness := (true, "d4e713d9e8b8961e1f74690a0e14d9bf8d142435cd8bb79d65d5e176c2994ca9"), looks := false }, kinds := [], alts := [], laidByText := true, laidKinds := [.data, .data, .data, .data], laidTests := true, laidLooks := .later }
def LirChecksUptoCardSaid : Prop := Claim7.holds Tryz.pinned (.plain (OpenSpec.upto lirChecksSpec)) lirChecksUptoCard

/-- THE SECOND FORM's CARD OF 'patinalaw06.LirRuns'. -/
def lirRunsUptoCard : Claim7 := { stood := { row := lirRunsUptoRow, standIns := [], harness := (true, "d4e713d9e8b8961e1f74690a0e14d9bf8d142435cd8bb79d65d5e176c2994ca9"), looks := false }, kinds := [], alts := [], laidByText := true, laidKinds := [.data, .data, .data, .data], laidTests := true, laidLooks := .later }
def LirRunsUptoCardSaid : Prop := Claim7.holds Tryz.pinned (.plain (OpenSpec.upto lirRunsSpec)) lirRunsUptoCard

/-- THE SECOND FORM's CARD OF 'patinalaw06.LirTexts'. -/
def lirTextsUptoCard : Claim7 := { stood := { row := lirTextsUptoRow, standIns := [], harness := (true, "d4e713d9e8b8961e1f74690a0e14d9bf8d142435cd8bb79d65d5e176c2994ca9"), looks := false }, kinds := [], alts := [], laidByText := true, laidKinds := [.data, .data, .data, .data], laidTests := true, laidLooks := .later }
def LirTextsUptoCardSaid : Prop := Claim7.holds Tryz.pinned (.plain (OpenSpec.upto lirTextsSpec)) lirTextsUptoCard

/-- THE SECOND FORM's CARD OF 'patinalaw06.LirTold'. -/
def lirToldUptoCard : Claim7 := { stood := { row := lirToldUptoRow, standIns := [], harness := (true, "d4e713d9e8b8961e1f74690a0e14d9bf8d142435cd8bb79d65d5e176c2994ca9"), looks := false }, kinds := [], alts := [], laidByText := true, laidKinds := [.data, .data, .data, .data], laidTests := true, laidLooks := .later }
def LirToldUptoCardSaid : Prop := Claim7.holds Tryz.pinned (.plain (OpenSpec.upto lirToldSpec)) lirToldUptoCard
end Rows
end Go.Proofs.YtdppoblbenbafaaGreatDoor
