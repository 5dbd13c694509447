/- What the document's table (FormOf) answers at some operations, walked. -/
import Derived.Test.YtndbkkldfinggaaDoorProg
import Derived.WalkKit
import Derived.WalkSpells
import Derived.WalkLawsBesides
import Derived.RegionTactic
namespace Go.Proofs.YtndbkkldfinggaaDoor
open Go.RowKit
set_option maxRecDepth 20000 in
set_option maxHeartbeats 2000000 in
theorem form37_grpQ (op f g : Int) (h1 : 45 ≤ op) (h2 : op ≤ 49) (w : World) (hf : ([.int .u32 0, .int .u32 0, .int .u32 1, .int .u32 5, .int .u32 5] : List Value)[(op - 45).toNat]? = some (.int .u32 f)) (hg : ([.int .u32 0, .int .u32 32, .int .u32 0, .int .u32 0, .int .u32 32] : List Value)[(op - 45).toNat]? = some (.int .u32 g)) :
    Calls Tryd.prog 37 #[.int .i64 op] w fun e w' => e = .returned (.agg #[.int .u8 82, .int .u32 59, .int .u32 f, .int .u32 g]) ∧ Below w.heap.size w w' := by
  have h3 : 0 ≤ op - 45 := by omega
  have h4 : op - 45 < 5 := by omega
  have h5 : (op - 45).toNat < 5 := by omega
  have hf' : ([.int .u32 0, .int .u32 0, .int .u32 1, .int .u32 5, .int .u32 5] : List Value)[(op - 45).toNat]'h5 = .int .u32 f := (List.getElem?_eq_some_iff.1 hf).2
  have hg' : ([.int .u32 0, .int .u32 32, .int .u32 0, .int .u32 0, .int .u32 32] : List Value)[(op - 45).toNat]'h5 = .int .u32 g := (List.getElem?_eq_some_iff.1 hg).2
  clear hf hg
  have hw : IntKind.i64.wrap (op - 45) = op - 45 := by simp [IntKind.wrap, IntKind.bits, IntKind.signed]; omega
  go_enter Tryd.func37, Tryd.ntmps37
  go_wp2
  go_region
  all_goals go_wp2
  all_goals refine bodyPost_ret (v := .agg #[.int .u8 82, .int .u32 59, .int .u32 f, .int .u32 g]) (by simp [results, Tryd.results37, go_sem]) rfl ⟨rfl, ?_⟩
  all_goals exact ((((Below.refl _ _).alloc (Nat.le_refl _) _).alloc (by simp) _).alloc (by simp <;> omega) _).drew
theorem form37_45 (w : World) : Calls Tryd.prog 37 #[.int .i64 45] w fun e w' => e = .returned (.agg #[.int .u8 82, .int .u32 59, .int .u32 0, .int .u32 0]) ∧ Below w.heap.size w w' :=
  form37_grpQ 45 0 0 (by decide) (by decide) w rfl rfl
theorem form37_46 (w : World) : Calls Tryd.prog 37 #[.int .i64 46] w fun e w' => e = .returned (.agg #[.int .u8 82, .int .u32 59, .int .u32 0, .int .u32 32]) ∧ Below w.heap.size w w' :=
  form37_grpQ 46 0 32 (by decide) (by decide) w rfl rfl
theorem form37_47 (w : World) : Calls Tryd.prog 37 #[.int .i64 47] w fun e w' => e = .returned (.agg #[.int .u8 82, .int .u32 59, .int .u32 1, .int .u32 0]) ∧ Below w.heap.size w w' :=
  form37_grpQ 47 1 0 (by decide) (by decide) w rfl rfl
theorem form37_48 (w : World) : Calls Tryd.prog 37 #[.int .i64 48] w fun e w' => e = .returned (.agg #[.int .u8 82, .int .u32 59, .int .u32 5, .int .u32 0]) ∧ Below w.heap.size w w' :=
  form37_grpQ 48 5 0 (by decide) (by decide) w rfl rfl
theorem form37_49 (w : World) : Calls Tryd.prog 37 #[.int .i64 49] w fun e w' => e = .returned (.agg #[.int .u8 82, .int .u32 59, .int .u32 5, .int .u32 32]) ∧ Below w.heap.size w w' :=
  form37_grpQ 49 5 32 (by decide) (by decide) w rfl rfl
end Go.Proofs.YtndbkkldfinggaaDoor
