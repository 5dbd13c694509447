/-
  NARROWER THAN 'FOR EVERY INPUT', by the rows' own cells (each row's printed sentence says how): CpuAlus: laid · CpuParts: laid · CpuOver: laid · CpuNil: laid.
  DERIVED. THE GIVEN ROWS OF THIS SEAT. 4 by the template 'for every input the law returns true; each argument reads behind the call as it read before'; 0 by the template 'total and deterministic' (their statements: YtnmpbihpoefeoaaDoorTotals.lean).
  GIVEN WITH THE SEED: the statements are not yours to turn. If you find one false, say at which input.
  Laid BY PROGRAM, IN A SANDBOX (cutbox-rows.mjs): the forced cells as the released guide's own fill.sh prints them over the translation fe51512b959c039f… (all of the seat's roots in one cut). By AI agents, Wed Nov 11 2026. No macro, syntax, notation, axiom, sorry.
-/
import Derived.Test.YtnmpbihpoefeoaaDoorChecked
import GoSem.Claim
import GoSem.ClaimJoined
import GoSem.ClaimMapViews
import Derived.JoinedTies
import Derived.KernelRfl
namespace Go.Proofs.YtnmpbihpoefeoaaDoor
/- THE CELL 'sum', in the pinned program and in every row, IS THE sha256 OF THE DUMP (.gsa) THAT YtnmpbihpoefeoaaDoorProg.lean LOADS. Nothing in Lean hashes anything: it is a label: what it is worth is what the hold of that sum in a sandbox is worth. -/
noncomputable def Tryd.pinned : Pinned := { name := "ytnmpbihpoefeoaadoor", sum := "fe51512b959c039fac1b4acbcfa20c158a3a0d72440cb75d3108b663cd45c2af", checked := Tryd.checked }
namespace Rows
def none {H : Type} : Left H := { results := [], args := [] }

/- WHAT THE LISTED PACKAGE-LEVEL VARIABLES READ AS WHEN THE CALL BEGINS. Each datum BY PROGRAM (the guide's laid-datum.mjs) off the statement by which the dump's own 'gosem.cut.vars' lays the variable. In a bare row this is a premise. The card (YtnmpbihpoefeoaaDoorCards.lean) ties it to the program's text. -/
def laid_patina_rv_fixed {H : Type} : DataW H := .agg [.lit (.int .u32 0), .lit (.int .u32 55), .lit (.int .u32 23), .lit (.int .u32 111), .lit (.int .u32 103), .lit (.int .u32 99), .lit (.int .u32 4195), .lit (.int .u32 16483), .lit (.int .u32 20579), .lit (.int .u32 24675), .lit (.int .u32 28771), .lit (.int .u32 3), .lit (.int .u32 4099), .lit (.int .u32 8195), .lit (.int .u32 12291), .lit (.int .u32 16387), .lit (.int .u32 20483), .lit (.int .u32 24579), .lit (.int .u32 35), .lit (.int .u32 4131), .lit (.int .u32 8227), .lit (.int .u32 12323), .lit (.int .u32 19), .lit (.int .u32 8211), .lit (.int .u32 12307), .lit (.int .u32 16403), .lit (.int .u32 24595), .lit (.int .u32 28691), .lit (.int .u32 4115), .lit (.int .u32 20499), .lit (.int .u32 1073762323), .lit (.int .u32 27), .lit (.int .u32 4123), .lit (.int .u32 20507), .lit (.int .u32 1073762331), .lit (.int .u32 51), .lit (.int .u32 1073741875), .lit (.int .u32 4147), .lit (.int .u32 8243), .lit (.int .u32 12339), .lit (.int .u32 16435), .lit (.int .u32 20531), .lit (.int .u32 1073762355), .lit (.int .u32 24627), .lit (.int .u32 28723), .lit (.int .u32 59), .lit (.int .u32 1073741883), .lit (.int .u32 4155), .lit (.int .u32 20539), .lit (.int .u32 1073762363), .lit (.int .u32 33554483), .lit (.int .u32 33558579), .lit (.int .u32 33562675), .lit (.int .u32 33566771), .lit (.int .u32 33570867), .lit (.int .u32 33574963), .lit (.int .u32 33579059), .lit (.int .u32 33583155), .lit (.int .u32 33554491), .lit (.int .u32 33570875), .lit (.int .u32 33574971), .lit (.int .u32 33579067), .lit (.int .u32 33583163), .lit (.int .u32 15), .lit (.int .u32 115), .lit (.int .u32 1048691)]

/-- 'patinalaw03.CpuAlus': WHATEVER THE INPUT: true; the input reads as it did. -/
def cpuAlusSpec : ChangeSpec := { name := "cpuAlus", fn := fun _ => fun
  | [d1, d2, d3] => { results := [.lit (.bool true)], args := [d1, d2, d3] }
  | _ => none }
def cpuAlusRow : OpenClaim := { program := "ytnmpbihpoefeoaadoor", sum := "fe51512b959c039fac1b4acbcfa20c158a3a0d72440cb75d3108b663cd45c2af", func := "patina/patinalaw03.CpuAlus", spec := "cpuAlus", unfollowed := true, recurses := true, named := ["patina/rv.fixed"], apart := false, laid := [("patina/rv.fixed", laid_patina_rv_fixed)] }
def CpuAlusSaid : Prop := cpuAlusRow.holds Tryd.pinned (OpenSpec.ofChange cpuAlusSpec)

/-- ITS FALSE NEIGHBOUR: 'it returns false'. Refute it at one input. -/
def cpuAlusWrong : ChangeSpec := { name := "cpuAlus", fn := fun _ => fun
  | [d1, d2, d3] => { results := [.lit (.bool false)], args := [d1, d2, d3] }
  | _ => none }
def CpuAlusWrongFalsely : Prop := cpuAlusRow.holds Tryd.pinned (OpenSpec.ofChange cpuAlusWrong)

/-- 'patinalaw03.CpuParts': WHATEVER THE INPUT: true; the input reads as it did. -/
def cpuPartsSpec : ChangeSpec := { name := "cpuParts", fn := fun _ => fun
  | [d1, d2] => { results := [.lit (.bool true)], args := [d1, d2] }
  | _ => none }
def cpuPartsRow : OpenClaim := { program := "ytnmpbihpoefeoaadoor", sum := "fe51512b959c039fac1b4acbcfa20c158a3a0d72440cb75d3108b663cd45c2af", func := "patina/patinalaw03.CpuParts", spec := "cpuParts", unfollowed := true, recurses := true, named := ["patina/rv.fixed"], apart := false, laid := [("patina/rv.fixed", laid_patina_rv_fixed)] }
def CpuPartsSaid : Prop := cpuPartsRow.holds Tryd.pinned (OpenSpec.ofChange cpuPartsSpec)

/-- ITS FALSE NEIGHBOUR: 'it returns false'. Refute it at one input. -/
def cpuPartsWrong : ChangeSpec := { name := "cpuParts", fn := fun _ => fun
  | [d1, d2] => { results := [.lit (.bool false)], args := [d1, d2] }
  | _ => none }
def CpuPartsWrongFalsely : Prop := cpuPartsRow.holds Tryd.pinned (OpenSpec.ofChange cpuPartsWrong)

/-- 'patinalaw03.CpuOver': WHATEVER THE INPUT: true; the input reads as it did. -/
def cpuOverSpec : ChangeSpec := { name := "cpuOver", fn := fun _ => fun
  | [d] => { results := [.lit (.bool true)], args := [d] }
  | _ => none }
def cpuOverRow : OpenClaim := { program := "ytnmpbihpoefeoaadoor", sum := "fe51512b959c039fac1b4acbcfa20c158a3a0d72440cb75d3108b663cd45c2af", func := "patina/patinalaw03.CpuOver", spec := "cpuOver", unfollowed := true, recurses := true, named := ["patina/rv.fixed"], apart := false, laid := [("patina/rv.fixed", laid_patina_rv_fixed)] }
def CpuOverSaid : Prop := cpuOverRow.holds Tryd.pinned (OpenSpec.ofChange cpuOverSpec)

/-- ITS FALSE NEIGHBOUR: 'it returns false'. Refute it at one input. -/
def cpuOverWrong : ChangeSpec := { name := "cpuOver", fn := fun _ => fun
  | [d] => { results := [.lit (.bool false)], args := [d] }
  | _ => none }
def CpuOverWrongFalsely : Prop := cpuOverRow.holds Tryd.pinned (OpenSpec.ofChange cpuOverWrong)

/-- 'patinalaw03.CpuNil': WHATEVER THE INPUT: true; the input reads as it did. -/
def cpuNilSpec : ChangeSpec := { name := "cpuNil", fn := fun _ => fun
  | [d] => { results := [.lit (.bool true)], args := [d] }
  | _ => none }
def cpuNilRow : OpenClaim := { program := "ytnmpbihpoefeoaadoor", sum := "fe51512b959c039fac1b4acbcfa20c158a3a0d72440cb75d3108b663cd45c2af", func := "patina/patinalaw03.CpuNil", spec := "cpuNil", unfollowed := true, recurses := true, named := ["patina/rv.fixed"], apart := false, laid := [("patina/rv.fixed", laid_patina_rv_fixed)] }
def CpuNilSaid : Prop := cpuNilRow.holds Tryd.pinned (OpenSpec.ofChange cpuNilSpec)

/-- ITS FALSE NEIGHBOUR: 'it returns false'. Refute it at one input. -/
def cpuNilWrong : ChangeSpec := { name := "cpuNil", fn := fun _ => fun
  | [d] => { results := [.lit (.bool false)], args := [d] }
  | _ => none }
def CpuNilWrongFalsely : Prop := cpuNilRow.holds Tryd.pinned (OpenSpec.ofChange cpuNilWrong)

/- THE SECOND FORM. 'bulk': how many values and letters a reading holds, each counted each time it is reached (what is shared counts as often as it is met; a slice's spare places count too). A statement '..UptoSaid' is the law's where the arguments, and the package variables that the reading takes, are together of bulk at most 1048576: NARROWER than '..Said'. Prove '..Said' where nothing that the law and all that it calls make is longer than what came in: it says more and counts as full. Else prove '..UptoSaid'. A law counts once. -/
mutual
def uptoBulk {H : Type} : DataW H → Nat
  | .lit (.string bytes) => bytes.length + 1
  | .lit _ => 1
  | .nil => 1
  | .ptr d => uptoBulk d + 1
  | .slice elems spare => uptoBulkAll elems + uptoBulkAll spare + 1
  | .agg parts => uptoBulkAll parts + 1
  | .iface _ d => uptoBulk d + 1
  | .map entries => uptoBulkEntries entries + 1
  | .held _ => 1
def uptoBulkAll {H : Type} : List (DataW H) → Nat
  | [] => 0
  | d :: r => uptoBulk d + uptoBulkAll r
def uptoBulkEntries {H : Type} : List (Lit × DataW H) → Nat
  | [] => 0
  | x :: r => uptoBulkEntry x + uptoBulkEntries r
def uptoBulkEntry {H : Type} : Lit × DataW H → Nat
  | (.string bytes, d) => bytes.length + uptoBulk d + 1
  | (_, d) => uptoBulk d + 1
 end
def uptoSmall : (H : Type) → List (DataW H) → Bool := fun _ ds => decide (uptoBulkAll ds ≤ 1048576)
def OpenSpec.upto (s : _root_.Go.ChangeSpec) : _root_.Go.OpenSpec := { _root_.Go.OpenSpec.ofChange s with cond := some uptoSmall }

/-- 'patinalaw03.CpuAlus', WHERE WHAT IT READS IS OF BULK AT MOST 1048576: true; the input reads as it did. -/
def cpuAlusUptoRow : OpenClaim := { program := "ytnmpbihpoefeoaadoor", sum := "fe51512b959c039fac1b4acbcfa20c158a3a0d72440cb75d3108b663cd45c2af", func := "patina/patinalaw03.CpuAlus", spec := "cpuAlus", unfollowed := true, recurses := true, named := ["patina/rv.fixed"], apart := false, laid := [("patina/rv.fixed", laid_patina_rv_fixed)], narrowed := true }
def CpuAlusUptoSaid : Prop := cpuAlusUptoRow.holds Tryd.pinned (OpenSpec.upto cpuAlusSpec)

/-- 'patinalaw03.CpuParts', WHERE WHAT IT READS IS OF BULK AT MOST 1048576: true; the input reads as it did. -/
def cpuPartsUptoRow : OpenClaim := { program := "ytnmpbihpoefeoaadoor", sum := "fe51512b959c039fac1b4acbcfa20c158a3a0d72440cb75d3108b663cd45c2af", func := "patina/patinalaw03.CpuParts", spec := "cpuParts", unfollowed := true, recurses := true, named := ["patina/rv.fixed"], apart := false, laid := [("patina/rv.fixed", laid_patina_rv_fixed)], narrowed := true }
def CpuPartsUptoSaid : Prop := cpuPartsUptoRow.holds Tryd.pinned (OpenSpec.upto cpuPartsSpec)

/-- 'patinalaw03.CpuOver', WHERE WHAT IT READS IS OF BULK AT MOST 1048576: true; the input reads as it did. -/
def cpuOverUptoRow : OpenClaim := { program := "ytnmpbihpoefeoaadoor", sum := "fe51512b959c039fac1b4acbcfa20c158a3a0d72440cb75d3108b663cd45c2af", func := "patina/patinalaw03.CpuOver", spec := "cpuOver", unfollowed := true, recurses := true, named := ["patina/rv.fixed"], apart := false, laid := [("patina/rv.fixed", laid_patina_rv_fixed)], narrowed := true }
def CpuOverUptoSaid : Prop := cpuOverUptoRow.holds Tryd.pinned (OpenSpec.upto cpuOverSpec)

/-- 'patinalaw03.CpuNil', WHERE WHAT IT READS IS OF BULK AT MOST 1048576: true; the input reads as it did. -/
def cpuNilUptoRow : OpenClaim := { program := "ytnmpbihpoefeoaadoor", sum := "fe51512b959c039fac1b4acbcfa20c158a3a0d72440cb75d3108b663cd45c2af", func := "patina/patinalaw03.CpuNil", spec := "cpuNil", unfollowed := true, recurses := true, named := ["patina/rv.fixed"], apart := false, laid := [("patina/rv.fixed", laid_patina_rv_fixed)], narrowed := true }
def CpuNilUptoSaid : Prop := cpuNilUptoRow.holds Tryd.pinned (OpenSpec.upto cpuNilSpec)

end Rows
end Go.Proofs.YtnmpbihpoefeoaaDoor
