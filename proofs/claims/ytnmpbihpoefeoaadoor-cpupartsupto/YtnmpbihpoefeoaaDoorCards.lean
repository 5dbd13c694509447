/-
  DERIVED. GIVEN WITH THE SEED: THE CARDS: each row of YtnmpbihpoefeoaaDoorRows.lean that lists a variable, with what it lists TIED to the program's text (the seventh form; the later family's looks); each row that meets fmt, with fmt's text TOLD by the authors' own Lean function (tested against real Go, not proved from fmt's source: count such statements apart). THE CARD IS WHAT COUNTS. Prove the row's statement (the work); the ties are given (YtnmpbihpoefeoaaDoorTie.lean); close each card by the builder's one call (the guide's Derived/Test/ToyasCard.lean, 'card_holds'). Laid BY PROGRAM, IN A SANDBOX (cutbox-door.mjs). By AI agents, Wed Nov 11 2026. No macro, syntax, notation, axiom, sorry.
-/
import Derived.Test.YtnmpbihpoefeoaaDoorRows
import GoSem.ClaimSeven
namespace Go.Proofs.YtnmpbihpoefeoaaDoor
namespace Rows

/-- THE TIED CARD OF 'patinalaw03.CpuAlus'. -/
def cpuAlusCard : Claim7 := { stood := { row := cpuAlusRow, standIns := [], harness := (true, "ff038f0ef1942cbfd476d677ae4d458e48bf0094dc604594b81f529440817211"), looks := false }, kinds := [], alts := [], laidByText := true, laidKinds := [.data], laidTests := true, laidLooks := .later }
def CpuAlusCardSaid : Prop := Claim7.holds Tryd.pinned (.plain (OpenSpec.ofChange cpuAlusSpec)) cpuAlusCard

/-- THE TIED CARD OF 'patinalaw03.CpuParts'. -/
def cpuPartsCard : Claim7 := { stood := { row := cpuPartsRow, standIns := [], harness := (true, "ff038f0ef1942cbfd476d677ae4d458e48bf0094dc604594b81f529440817211"), looks := false }, kinds := [], alts := [], laidByText := true, laidKinds := [.data], laidTests := true, laidLooks := .later }
def CpuPartsCardSaid : Prop := Claim7.holds Tryd.pinned (.plain (OpenSpec.ofChange cpuPartsSpec)) cpuPartsCard

/-- THE TIED CARD OF 'patinalaw03.CpuOver'. -/
def cpuOverCard : Claim7 := { stood := { row := cpuOverRow, standIns := [], harness := (true, "ff038f0ef1942cbfd476d677ae4d458e48bf0094dc604594b81f529440817211"), looks := false }, kinds := [], alts := [], laidByText := true, laidKinds := [.data], laidTests := true, laidLooks := .later }
def CpuOverCardSaid : Prop := Claim7.holds Tryd.pinned (.plain (OpenSpec.ofChange cpuOverSpec)) cpuOverCard

/-- THE TIED CARD OF 'patinalaw03.CpuNil'. -/
def cpuNilCard : Claim7 := { stood := { row := cpuNilRow, standIns := [], harness := (true, "ff038f0ef1942cbfd476d677ae4d458e48bf0094dc604594b81f529440817211"), looks := false }, kinds := [], alts := [], laidByText := true, laidKinds := [.data], laidTests := true, laidLooks := .later }
def CpuNilCardSaid : Prop := Claim7.holds Tryd.pinned (.plain (OpenSpec.ofChange cpuNilSpec)) cpuNilCard

/-- THE SECOND FORM's CARD OF 'patinalaw03.CpuAlus'. -/
def cpuAlusUptoCard : Claim7 := { stood := { row := cpuAlusUptoRow, standIns := [], harness := (true, "ff038f0ef1942cbfd476d677ae4d458e48bf0094dc604594b81f529440817211"), looks := false }, kinds := [], alts := [], laidByText := true, laidKinds := [.data], laidTests := true, laidLooks := .later }
def CpuAlusUptoCardSaid : Prop := Claim7.holds Tryd.pinned (.plain (OpenSpec.upto cpuAlusSpec)) cpuAlusUptoCard

/-- THE SECOND FORM's CARD OF 'patinalaw03.CpuParts'. -/
def cpuPartsUptoCard : Claim7 := { stood := { row := cpuPartsUptoRow, standIns := [], harness := (true, "ff038f0ef1942cbfd476d677ae4d458e48bf0094dc604594b81f529440817211"), looks := false }, kinds := [], alts := [], laidByText := true, laidKinds := [.data], laidTests := true, laidLooks := .later }
def CpuPartsUptoCardSaid : Prop := Claim7.holds Tryd.pinned (.plain (OpenSpec.upto cpuPartsSpec)) cpuPartsUptoCard

/-- THE SECOND FORM's CARD OF 'patinalaw03.CpuOver'. -/
def cpuOverUptoCard : Claim7 := { stood := { row := cpuOverUptoRow, standIns := [], harness := (true, "ff038f0ef1942cbfd476d677ae4d458e48bf0094dc604594b81f529440817211"), looks := false }, kinds := [], alts := [], laidByText := true, laidKinds := [.data], laidTests := true, laidLooks := .later }
def CpuOverUptoCardSaid : Prop := Claim7.holds Tryd.pinned (.plain (OpenSpec.upto cpuOverSpec)) cpuOverUptoCard

/-- THE SECOND FORM's CARD OF 'patinalaw03.CpuNil'. -/
def cpuNilUptoCard : Claim7 := { stood := { row := cpuNilUptoRow, standIns := [], harness := (true, "ff038f0ef1942cbfd476d677ae4d458e48bf0094dc604594b81f529440817211"), looks := false }, kinds := [], alts := [], laidByText := true, laidKinds := [.data], laidTests := true, laidLooks := .later }
def CpuNilUptoCardSaid : Prop := Claim7.holds Tryd.pinned (.plain (OpenSpec.upto cpuNilSpec)) cpuNilUptoCard
end Rows
end Go.Proofs.YtnmpbihpoefeoaaDoor
