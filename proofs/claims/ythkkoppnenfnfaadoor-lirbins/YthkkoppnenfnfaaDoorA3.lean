/- The runtime's functions, and what an instruction has. -/
import Derived.Test.YthkkoppnenfnfaaDoorA1
namespace Go.Proofs.YthkkoppnenfnfaaDoor
open Go.RowKit Go.Shelf
set_option maxHeartbeats 1000000 in
theorem rta_print (w : World) : Calls Tryd.prog 41 #[.string ⟨#[114, 116, 46, 112, 114, 105, 110, 116]⟩] w fun e w' => e = .returned (.tuple #[.int .i64 1, .bool true]) ∧ w' = w := by
  go_enter Tryd.func41, Tryd.ntmps41
  go_wp2
  go_ret2
  exact ⟨rfl, rfl⟩
def hsB (F : ByteArray) (c : UInt8) : Bool := decide (0 ≤ Lib.indexByte F.data.toList c)
set_option maxHeartbeats 1000000 in
theorem has63 (F : ByteArray) (c : UInt8) (b : Nat) (w : World) (h : w.cell? ⟨b, 0, none⟩ = some (.string F)) : Calls Tryd.prog 63 #[.string ⟨#[c]⟩, .pointer (some ⟨b, 0, none⟩)] w fun e w' => e = .returned (.bool (hsB F c)) ∧ w' = w := by
  have hC : ∀ w : World, Calls Tryd.prog 64 #[.string F, .string ⟨#[c]⟩] w fun e w' => e = .returned (.bool (hsB F c)) ∧ w' = w := fun w => Tryd.strings_Contains_one F c w
  go_enter Tryd.func63, Tryd.ntmps63
  go_wp2_with (first | (go_at_call 64; refine (hC _).mono ?_; rintro e w' ⟨rfl, rfl⟩))
  go_ret
  exact ⟨rfl, rfl⟩
/-- A function, and an instruction, as they are handed on. -/
def fnV (nm : ByteArray) (pa rg fr : Int) (bl : Value) : Value := .agg #[.string nm, .int .i64 pa, .int .i64 rg, .int .i64 fr, bl]
set_option maxHeartbeats 1000000 in
theorem callee_print (m1 m2 : Value) (w : World) : Calls Tryd.prog 74 #[.agg #[m1, m2], .string ⟨#[114, 116, 46, 112, 114, 105, 110, 116]⟩, .int .i64 1] w fun e w' => e = .returned (.bool true) ∧ Below w.heap.size w w' := by
  go_enter Tryd.func74, Tryd.ntmps74
  go_wp2_with (first | (go_at_call 41; refine (rta_print _).mono ?_; rintro e w' ⟨rfl, rfl⟩))
  go_ret
  exact ⟨rfl, (Below.refl _ _).alloc (Nat.le_refl _) _⟩
end Go.Proofs.YthkkoppnenfnfaaDoor
