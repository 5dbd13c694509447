/- The great region of an instruction's look: its order. -/
import Derived.Test.YthkkoppnenfnfaaDoorG0
namespace Go.Proofs.YthkkoppnenfnfaaDoor
open Go.RowKit Go.Shelf
/-- The operations of a region, by its number. -/
def opsOf : Code → Nat → List Oper
  | .region id ops _, n => if id = n then ops.toList else []
  | .seq a b, n => match opsOf a n with
    | [] => opsOf b n
    | l => l
  | .cond _ a b, n => match opsOf a n with
    | [] => opsOf b n
    | l => l
  | .block _ b, n => opsOf b n
  | .loop b, n => opsOf b n
  | .scope b, n => opsOf b n
  | _, _ => []
theorem lex59 : Region.lexB .any (opsOf (Tryd.f59.body.getD .skip) 11).toArray = true := by kernel_rfl
end Go.Proofs.YthkkoppnenfnfaaDoor
