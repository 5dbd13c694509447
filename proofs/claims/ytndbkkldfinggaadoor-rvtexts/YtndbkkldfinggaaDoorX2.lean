/- What the document's table (FormOf) answers at some operations, walked. -/
import Derived.Test.YtndbkkldfinggaaDoorProg
import Derived.WalkKit
import Derived.WalkSpells
import Derived.WalkLawsBesides
import Derived.RegionTactic
namespace Go.Proofs.YtndbkkldfinggaaDoor
open Go.RowKit
set_option maxRecDepth 20000 in
set_option maxHeartbeats 2000000 in
theorem form37_grpH (op f g : Int) (h1 : 28 ≤ op) (h2 : op ≤ 30) (w : World) (hf : ([.int .u32 1, .int .u32 5, .int .u32 5] : List Value)[(op - 28).toNat]? = some (.int .u32 f)) (hg : ([.int .u32 0, .int .u32 0, .int .u32 32] : List Value)[(op - 28).toNat]? = some (.int .u32 g)) :
    Calls Tryd.prog 37 #[.int .i64 op] w fun e w' => e = .returned (.agg #[.int .u8 72, .int .u32 19, .int .u32 f, .int .u32 g]) ∧ Below w.heap.size w w' := by
  have h3 : 0 ≤ op - 28 := by omega
  have h4 : op - 28 < 3 := by omega
  have h5 : (op - 28).toNat < 3 := by omega
  have hf' : ([.int .u32 1, .int .u32 5, .int .u32 5] : List Value)[(op - 28).toNat]'h5 = .int .u32 f := (List.getElem?_eq_some_iff.1 hf).2
  have hg' : ([.int .u32 0, .int .u32 0, .int .u32 32] : List Value)[(op - 28).toNat]'h5 = .int .u32 g := (List.getElem?_eq_some_iff.1 hg).2
  clear hf hg
  have hw : IntKind.i64.wrap (op - 28) = op - 28 := by simp [IntKind.wrap, IntKind.bits, IntKind.signed]; omega
  go_enter Tryd.func37, Tryd.ntmps37
  go_wp2
  go_region
  all_goals go_wp2
  all_goals refine bodyPost_ret (v := .agg #[.int .u8 72, .int .u32 19, .int .u32 f, .int .u32 g]) (by simp [results, Tryd.results37, go_sem]) rfl ⟨rfl, ?_⟩
  all_goals exact ((((Below.refl _ _).alloc (Nat.le_refl _) _).alloc (by simp) _).alloc (by simp <;> omega) _).drew
theorem form37_28 (w : World) : Calls Tryd.prog 37 #[.int .i64 28] w fun e w' => e = .returned (.agg #[.int .u8 72, .int .u32 19, .int .u32 1, .int .u32 0]) ∧ Below w.heap.size w w' :=
  form37_grpH 28 1 0 (by decide) (by decide) w rfl rfl
theorem form37_29 (w : World) : Calls Tryd.prog 37 #[.int .i64 29] w fun e w' => e = .returned (.agg #[.int .u8 72, .int .u32 19, .int .u32 5, .int .u32 0]) ∧ Below w.heap.size w w' :=
  form37_grpH 29 5 0 (by decide) (by decide) w rfl rfl
theorem form37_30 (w : World) : Calls Tryd.prog 37 #[.int .i64 30] w fun e w' => e = .returned (.agg #[.int .u8 72, .int .u32 19, .int .u32 5, .int .u32 32]) ∧ Below w.heap.size w w' :=
  form37_grpH 30 5 32 (by decide) (by decide) w rfl rfl
end Go.Proofs.YtndbkkldfinggaaDoor
