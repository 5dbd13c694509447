/-
  No cell of these rows narrows 'for every input' (looked for: loops, veiled, ifaces, maps, wideKeys, modest, calm, conditions, laid).
  DERIVED. THE GIVEN ROWS OF THIS SEAT. 6 by the template 'for every input the law returns true; each argument reads behind the call as it read before'; 0 by the template 'total and deterministic' (their statements: YtndbkkldfinggabTotals.lean).
  GIVEN WITH THE SEED: the statements are not yours to turn. If you find one false, say at which input.
  Laid BY PROGRAM, IN A SANDBOX (cutbox-rows.mjs): the forced cells as the released guide's own fill.sh prints them over the translation f7ee4e2927d1b864… (all of the seat's roots in one cut). By AI agents, Wed Nov 11 2026. No macro, syntax, notation, axiom, sorry.
-/
import Derived.Test.YtndbkkldfinggabChecked
import GoSem.Claim
import GoSem.ClaimJoined
import GoSem.ClaimMapViews
import Derived.JoinedTies
import Derived.KernelRfl
namespace Go.Proofs.Ytndbkkldfinggab
/- THE CELL 'sum', in the pinned program and in every row, IS THE sha256 OF THE DUMP (.gsa) THAT YtndbkkldfinggabProg.lean LOADS. Nothing in Lean hashes anything: it is a label: what it is worth is what the hold of that sum in a sandbox is worth. -/
noncomputable def Try.pinned : Pinned := { name := "ytndbkkldfinggab", sum := "f7ee4e2927d1b8647439ca45c937e24d2314b99d9641216be69f52102330b918", checked := Try.checked }
namespace Rows
def none {H : Type} : Left H := { results := [], args := [] }

/-- 'patinalaw02.MemLoads': WHATEVER THE INPUT: true; the input reads as it did. -/
def memLoadsSpec : ChangeSpec := { name := "memLoads", fn := fun _ => fun
  | [d] => { results := [.lit (.bool true)], args := [d] }
  | _ => none }
def memLoadsRow : OpenClaim := { program := "ytndbkkldfinggab", sum := "f7ee4e2927d1b8647439ca45c937e24d2314b99d9641216be69f52102330b918", func := "patina/patinalaw02.MemLoads", spec := "memLoads", unfollowed := true, recurses := true, apart := false }
def MemLoadsSaid : Prop := memLoadsRow.holds Try.pinned (OpenSpec.ofChange memLoadsSpec)

/-- ITS FALSE NEIGHBOUR: 'it returns false'. Refute it at one input. -/
def memLoadsWrong : ChangeSpec := { name := "memLoads", fn := fun _ => fun
  | [d] => { results := [.lit (.bool false)], args := [d] }
  | _ => none }
def MemLoadsWrongFalsely : Prop := memLoadsRow.holds Try.pinned (OpenSpec.ofChange memLoadsWrong)

/-- 'patinalaw02.MemStores': WHATEVER THE INPUT: true; the input reads as it did. -/
def memStoresSpec : ChangeSpec := { name := "memStores", fn := fun _ => fun
  | [d] => { results := [.lit (.bool true)], args := [d] }
  | _ => none }
def memStoresRow : OpenClaim := { program := "ytndbkkldfinggab", sum := "f7ee4e2927d1b8647439ca45c937e24d2314b99d9641216be69f52102330b918", func := "patina/patinalaw02.MemStores", spec := "memStores", unfollowed := true, recurses := true, apart := false }
def MemStoresSaid : Prop := memStoresRow.holds Try.pinned (OpenSpec.ofChange memStoresSpec)

/-- ITS FALSE NEIGHBOUR: 'it returns false'. Refute it at one input. -/
def memStoresWrong : ChangeSpec := { name := "memStores", fn := fun _ => fun
  | [d] => { results := [.lit (.bool false)], args := [d] }
  | _ => none }
def MemStoresWrongFalsely : Prop := memStoresRow.holds Try.pinned (OpenSpec.ofChange memStoresWrong)

/-- 'patinalaw02.MemPeeks': WHATEVER THE INPUT: true; the input reads as it did. -/
def memPeeksSpec : ChangeSpec := { name := "memPeeks", fn := fun _ => fun
  | [d1, d2] => { results := [.lit (.bool true)], args := [d1, d2] }
  | _ => none }
def memPeeksRow : OpenClaim := { program := "ytndbkkldfinggab", sum := "f7ee4e2927d1b8647439ca45c937e24d2314b99d9641216be69f52102330b918", func := "patina/patinalaw02.MemPeeks", spec := "memPeeks", unfollowed := true, recurses := true, apart := false }
def MemPeeksSaid : Prop := memPeeksRow.holds Try.pinned (OpenSpec.ofChange memPeeksSpec)

/-- ITS FALSE NEIGHBOUR: 'it returns false'. Refute it at one input. -/
def memPeeksWrong : ChangeSpec := { name := "memPeeks", fn := fun _ => fun
  | [d1, d2] => { results := [.lit (.bool false)], args := [d1, d2] }
  | _ => none }
def MemPeeksWrongFalsely : Prop := memPeeksRow.holds Try.pinned (OpenSpec.ofChange memPeeksWrong)

/-- 'patinalaw02.MemMapped': WHATEVER THE INPUT: true; the input reads as it did. -/
def memMappedSpec : ChangeSpec := { name := "memMapped", fn := fun _ => fun
  | [d] => { results := [.lit (.bool true)], args := [d] }
  | _ => none }
def memMappedRow : OpenClaim := { program := "ytndbkkldfinggab", sum := "f7ee4e2927d1b8647439ca45c937e24d2314b99d9641216be69f52102330b918", func := "patina/patinalaw02.MemMapped", spec := "memMapped", unfollowed := true, recurses := true, apart := false }
def MemMappedSaid : Prop := memMappedRow.holds Try.pinned (OpenSpec.ofChange memMappedSpec)

/-- ITS FALSE NEIGHBOUR: 'it returns false'. Refute it at one input. -/
def memMappedWrong : ChangeSpec := { name := "memMapped", fn := fun _ => fun
  | [d] => { results := [.lit (.bool false)], args := [d] }
  | _ => none }
def MemMappedWrongFalsely : Prop := memMappedRow.holds Try.pinned (OpenSpec.ofChange memMappedWrong)

/-- 'patinalaw02.MemHalves': WHATEVER THE INPUT: true; the input reads as it did. -/
def memHalvesSpec : ChangeSpec := { name := "memHalves", fn := fun _ => fun
  | [d] => { results := [.lit (.bool true)], args := [d] }
  | _ => none }
def memHalvesRow : OpenClaim := { program := "ytndbkkldfinggab", sum := "f7ee4e2927d1b8647439ca45c937e24d2314b99d9641216be69f52102330b918", func := "patina/patinalaw02.MemHalves", spec := "memHalves", unfollowed := true, recurses := true, apart := false }
def MemHalvesSaid : Prop := memHalvesRow.holds Try.pinned (OpenSpec.ofChange memHalvesSpec)

/-- ITS FALSE NEIGHBOUR: 'it returns false'. Refute it at one input. -/
def memHalvesWrong : ChangeSpec := { name := "memHalves", fn := fun _ => fun
  | [d] => { results := [.lit (.bool false)], args := [d] }
  | _ => none }
def MemHalvesWrongFalsely : Prop := memHalvesRow.holds Try.pinned (OpenSpec.ofChange memHalvesWrong)

/-- 'patinalaw02.MemTwo': WHATEVER THE INPUT: true; the input reads as it did. -/
def memTwoSpec : ChangeSpec := { name := "memTwo", fn := fun _ => fun
  | [d1, d2, d3] => { results := [.lit (.bool true)], args := [d1, d2, d3] }
  | _ => none }
def memTwoRow : OpenClaim := { program := "ytndbkkldfinggab", sum := "f7ee4e2927d1b8647439ca45c937e24d2314b99d9641216be69f52102330b918", func := "patina/patinalaw02.MemTwo", spec := "memTwo", unfollowed := true, recurses := true, apart := false }
def MemTwoSaid : Prop := memTwoRow.holds Try.pinned (OpenSpec.ofChange memTwoSpec)

/-- ITS FALSE NEIGHBOUR: 'it returns false'. Refute it at one input. -/
def memTwoWrong : ChangeSpec := { name := "memTwo", fn := fun _ => fun
  | [d1, d2, d3] => { results := [.lit (.bool false)], args := [d1, d2, d3] }
  | _ => none }
def MemTwoWrongFalsely : Prop := memTwoRow.holds Try.pinned (OpenSpec.ofChange memTwoWrong)

/- THE SECOND FORM. 'bulk': how many values and letters a reading holds, each counted each time it is reached (what is shared counts as often as it is met; a slice's spare places count too). A statement '..UptoSaid' is the law's where the arguments, and the package variables that the reading takes, are together of bulk at most 1048576: NARROWER than '..Said'. Prove '..Said' where nothing that the law and all that it calls make is longer than what came in: it says more and counts as full. Else prove '..UptoSaid'. A law counts once. -/
mutual
def uptoBulk {H : Type} : DataW H → Nat
  | .lit (.string bytes) => bytes.length + 1
  | .lit _ => 1
  | .nil => 1
  | .ptr d => uptoBulk d + 1
  | .slice elems spare => uptoBulkAll elems + uptoBulkAll spare + 1
  | .agg parts => uptoBulkAll parts + 1
  | .iface _ d => uptoBulk d + 1
  | .map entries => uptoBulkEntries entries + 1
  | .held _ => 1
def uptoBulkAll {H : Type} : List (DataW H) → Nat
  | [] => 0
  | d :: r => uptoBulk d + uptoBulkAll r
def uptoBulkEntries {H : Type} : List (Lit × DataW H) → Nat
  | [] => 0
  | x :: r => uptoBulkEntry x + uptoBulkEntries r
def uptoBulkEntry {H : Type} : Lit × DataW H → Nat
  | (.string bytes, d) => bytes.length + uptoBulk d + 1
  | (_, d) => uptoBulk d + 1
 end
def uptoSmall : (H : Type) → List (DataW H) → Bool := fun _ ds => decide (uptoBulkAll ds ≤ 1048576)
def OpenSpec.upto (s : _root_.Go.ChangeSpec) : _root_.Go.OpenSpec := { _root_.Go.OpenSpec.ofChange s with cond := some uptoSmall }

/-- 'patinalaw02.MemLoads', WHERE WHAT IT READS IS OF BULK AT MOST 1048576: true; the input reads as it did. -/
def memLoadsUptoRow : OpenClaim := { program := "ytndbkkldfinggab", sum := "f7ee4e2927d1b8647439ca45c937e24d2314b99d9641216be69f52102330b918", func := "patina/patinalaw02.MemLoads", spec := "memLoads", unfollowed := true, recurses := true, apart := false, narrowed := true }
def MemLoadsUptoSaid : Prop := memLoadsUptoRow.holds Try.pinned (OpenSpec.upto memLoadsSpec)

/-- 'patinalaw02.MemStores', WHERE WHAT IT READS IS OF BULK AT MOST 1048576: true; the input reads as it did. -/
def memStoresUptoRow : OpenClaim := { program := "ytndbkkldfinggab", sum := "f7ee4e2927d1b8647439ca45c937e24d2314b99d9641216be69f52102330b918", func := "patina/patinalaw02.MemStores", spec := "memStores", unfollowed := true, recurses := true, apart := false, narrowed := true }
def MemStoresUptoSaid : Prop := memStoresUptoRow.holds Try.pinned (OpenSpec.upto memStoresSpec)

/-- 'patinalaw02.MemPeeks', WHERE WHAT IT READS IS OF BULK AT MOST 1048576: true; the input reads as it did. -/
def memPeeksUptoRow : OpenClaim := { program := "ytndbkkldfinggab", sum := "f7ee4e2927d1b8647439ca45c937e24d2314b99d9641216be69f52102330b918", func := "patina/patinalaw02.MemPeeks", spec := "memPeeks", unfollowed := true, recurses := true, apart := false, narrowed := true }
def MemPeeksUptoSaid : Prop := memPeeksUptoRow.holds Try.pinned (OpenSpec.upto memPeeksSpec)

/-- 'patinalaw02.MemMapped', WHERE WHAT IT READS IS OF BULK AT MOST 1048576: true; the input reads as it did. -/
def memMappedUptoRow : OpenClaim := { program := "ytndbkkldfinggab", sum := "f7ee4e2927d1b8647439ca45c937e24d2314b99d9641216be69f52102330b918", func := "patina/patinalaw02.MemMapped", spec := "memMapped", unfollowed := true, recurses := true, apart := false, narrowed := true }
def MemMappedUptoSaid : Prop := memMappedUptoRow.holds Try.pinned (OpenSpec.upto memMappedSpec)

/-- 'patinalaw02.MemHalves', WHERE WHAT IT READS IS OF BULK AT MOST 1048576: true; the input reads as it did. -/
def memHalvesUptoRow : OpenClaim := { program := "ytndbkkldfinggab", sum := "f7ee4e2927d1b8647439ca45c937e24d2314b99d9641216be69f52102330b918", func := "patina/patinalaw02.MemHalves", spec := "memHalves", unfollowed := true, recurses := true, apart := false, narrowed := true }
def MemHalvesUptoSaid : Prop := memHalvesUptoRow.holds Try.pinned (OpenSpec.upto memHalvesSpec)

/-- 'patinalaw02.MemTwo', WHERE WHAT IT READS IS OF BULK AT MOST 1048576: true; the input reads as it did. -/
def memTwoUptoRow : OpenClaim := { program := "ytndbkkldfinggab", sum := "f7ee4e2927d1b8647439ca45c937e24d2314b99d9641216be69f52102330b918", func := "patina/patinalaw02.MemTwo", spec := "memTwo", unfollowed := true, recurses := true, apart := false, narrowed := true }
def MemTwoUptoSaid : Prop := memTwoUptoRow.holds Try.pinned (OpenSpec.upto memTwoSpec)

end Rows
end Go.Proofs.Ytndbkkldfinggab
