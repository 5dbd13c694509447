/- What the document's table (FormOf) answers at some operations, walked. -/
import Derived.Test.YtndbkkldfinggaaDoorProg
import Derived.WalkKit
import Derived.WalkSpells
import Derived.WalkLawsBesides
import Derived.RegionTactic
namespace Go.Proofs.YtndbkkldfinggaaDoor
open Go.RowKit
set_option maxRecDepth 20000 in
set_option maxHeartbeats 2000000 in
theorem form37_grpR (op f g : Int) (h1 : 35 ≤ op) (h2 : op ≤ 44) (w : World) (hf : ([.int .u32 0, .int .u32 0, .int .u32 1, .int .u32 2, .int .u32 3, .int .u32 4, .int .u32 5, .int .u32 5, .int .u32 6, .int .u32 7] : List Value)[(op - 35).toNat]? = some (.int .u32 f)) (hg : ([.int .u32 0, .int .u32 32, .int .u32 0, .int .u32 0, .int .u32 0, .int .u32 0, .int .u32 0, .int .u32 32, .int .u32 0, .int .u32 0] : List Value)[(op - 35).toNat]? = some (.int .u32 g)) :
    Calls Tryd.prog 37 #[.int .i64 op] w fun e w' => e = .returned (.agg #[.int .u8 82, .int .u32 51, .int .u32 f, .int .u32 g]) ∧ Below w.heap.size w w' := by
  have h3 : 0 ≤ op - 35 := by omega
  have h4 : op - 35 < 10 := by omega
  have h5 : (op - 35).toNat < 10 := by omega
  have hf' : ([.int .u32 0, .int .u32 0, .int .u32 1, .int .u32 2, .int .u32 3, .int .u32 4, .int .u32 5, .int .u32 5, .int .u32 6, .int .u32 7] : List Value)[(op - 35).toNat]'h5 = .int .u32 f := (List.getElem?_eq_some_iff.1 hf).2
  have hg' : ([.int .u32 0, .int .u32 32, .int .u32 0, .int .u32 0, .int .u32 0, .int .u32 0, .int .u32 0, .int .u32 32, .int .u32 0, .int .u32 0] : List Value)[(op - 35).toNat]'h5 = .int .u32 g := (List.getElem?_eq_some_iff.1 hg).2
  clear hf hg
  have hw : IntKind.i64.wrap (op - 35) = op - 35 := by simp [IntKind.wrap, IntKind.bits, IntKind.signed]; omega
  go_enter Tryd.func37, Tryd.ntmps37
  go_wp2
  go_region
  all_goals go_wp2
  all_goals refine bodyPost_ret (v := .agg #[.int .u8 82, .int .u32 51, .int .u32 f, .int .u32 g]) (by simp [results, Tryd.results37, go_sem]) rfl ⟨rfl, ?_⟩
  all_goals exact ((((Below.refl _ _).alloc (Nat.le_refl _) _).alloc (by simp) _).alloc (by simp <;> omega) _).drew
theorem form37_35 (w : World) : Calls Tryd.prog 37 #[.int .i64 35] w fun e w' => e = .returned (.agg #[.int .u8 82, .int .u32 51, .int .u32 0, .int .u32 0]) ∧ Below w.heap.size w w' :=
  form37_grpR 35 0 0 (by decide) (by decide) w rfl rfl
theorem form37_36 (w : World) : Calls Tryd.prog 37 #[.int .i64 36] w fun e w' => e = .returned (.agg #[.int .u8 82, .int .u32 51, .int .u32 0, .int .u32 32]) ∧ Below w.heap.size w w' :=
  form37_grpR 36 0 32 (by decide) (by decide) w rfl rfl
theorem form37_37 (w : World) : Calls Tryd.prog 37 #[.int .i64 37] w fun e w' => e = .returned (.agg #[.int .u8 82, .int .u32 51, .int .u32 1, .int .u32 0]) ∧ Below w.heap.size w w' :=
  form37_grpR 37 1 0 (by decide) (by decide) w rfl rfl
theorem form37_38 (w : World) : Calls Tryd.prog 37 #[.int .i64 38] w fun e w' => e = .returned (.agg #[.int .u8 82, .int .u32 51, .int .u32 2, .int .u32 0]) ∧ Below w.heap.size w w' :=
  form37_grpR 38 2 0 (by decide) (by decide) w rfl rfl
theorem form37_39 (w : World) : Calls Tryd.prog 37 #[.int .i64 39] w fun e w' => e = .returned (.agg #[.int .u8 82, .int .u32 51, .int .u32 3, .int .u32 0]) ∧ Below w.heap.size w w' :=
  form37_grpR 39 3 0 (by decide) (by decide) w rfl rfl
theorem form37_40 (w : World) : Calls Tryd.prog 37 #[.int .i64 40] w fun e w' => e = .returned (.agg #[.int .u8 82, .int .u32 51, .int .u32 4, .int .u32 0]) ∧ Below w.heap.size w w' :=
  form37_grpR 40 4 0 (by decide) (by decide) w rfl rfl
theorem form37_41 (w : World) : Calls Tryd.prog 37 #[.int .i64 41] w fun e w' => e = .returned (.agg #[.int .u8 82, .int .u32 51, .int .u32 5, .int .u32 0]) ∧ Below w.heap.size w w' :=
  form37_grpR 41 5 0 (by decide) (by decide) w rfl rfl
theorem form37_42 (w : World) : Calls Tryd.prog 37 #[.int .i64 42] w fun e w' => e = .returned (.agg #[.int .u8 82, .int .u32 51, .int .u32 5, .int .u32 32]) ∧ Below w.heap.size w w' :=
  form37_grpR 42 5 32 (by decide) (by decide) w rfl rfl
theorem form37_43 (w : World) : Calls Tryd.prog 37 #[.int .i64 43] w fun e w' => e = .returned (.agg #[.int .u8 82, .int .u32 51, .int .u32 6, .int .u32 0]) ∧ Below w.heap.size w w' :=
  form37_grpR 43 6 0 (by decide) (by decide) w rfl rfl
theorem form37_44 (w : World) : Calls Tryd.prog 37 #[.int .i64 44] w fun e w' => e = .returned (.agg #[.int .u8 82, .int .u32 51, .int .u32 7, .int .u32 0]) ∧ Below w.heap.size w w' :=
  form37_grpR 44 7 0 (by decide) (by decide) w rfl rfl
end Go.Proofs.YtndbkkldfinggaaDoor
