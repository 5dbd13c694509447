/- The three instructions of the little program, looked at. -/
import Derived.Test.YthkkoppnenfnfaaDoorG0
namespace Go.Proofs.YthkkoppnenfnfaaDoor
open Go.RowKit Go.Shelf
set_option maxHeartbeats 1000000 in
theorem callee_printG (m1 m2 : Value) (w : World) : Calls Tryd.prog 74 #[.agg #[m1, m2], .string ⟨#[114, 116, 46, 112, 114, 105, 110, 116]⟩, .int .i64 1] w fun e w' => e = .returned (.bool true) ∧ G w w' := by
  go_enter Tryd.func74, Tryd.ntmps74
  go_wp2_with (first | (go_at_call 41; refine (rta_print _).mono ?_; rintro e w' ⟨rfl, rfl⟩))
  go_ret
  exact ⟨rfl, (G.refl _).alloc _⟩
def rtp : ByteArray := ⟨#[114, 116, 46, 112, 114, 105, 110, 116]⟩
/-- The function's value, and the three instructions' (y: where the call's arguments lie). -/
def fv (y : Nat) : Value := .agg #[.string ⟨#[109, 97, 105, 110]⟩, .int .i64 0, .int .i64 1, .int .i64 0, .slice (some ⟨y, 0, none⟩) 1 1]
def i0 : Value := .agg #[.int .i64 1, .int .i64 0, .int .i64 0, .int .i64 0, .int .i64 7, .string ⟨#[]⟩, .slice none 0 0, .int .i64 0, .int .i64 0]
def i1 (y : Nat) : Value := .agg #[.int .i64 7, .int .i64 (-1), .int .i64 0, .int .i64 0, .int .i64 0, .string ⟨#[114, 116, 46, 112, 114, 105, 110, 116]⟩, .slice (some ⟨y, 0, none⟩) 1 1, .int .i64 0, .int .i64 0]
def i2 : Value := .agg #[.int .i64 10, .int .i64 0, .int .i64 (-1), .int .i64 0, .int .i64 0, .string ⟨#[]⟩, .slice none 0 0, .int .i64 0, .int .i64 0]
set_option maxHeartbeats 1000000 in
theorem num_0 (y : Nat) (w : World) : Calls Tryd.prog 66 #[fv y, i0] w fun e w' => e = .returned (.bool true) ∧ G w w' := by
  unfold fv i0
  go_enter Tryd.func66, Tryd.ntmps66
  go_wp2
  go_ret
  exact ⟨rfl, ((G.refl _).alloc _).alloc _⟩
set_option maxHeartbeats 1000000 in
theorem num_1 (y z : Nat) (w : World) : Calls Tryd.prog 66 #[fv y, i1 z] w fun e w' => e = .returned (.bool true) ∧ G w w' := by
  unfold fv i1
  go_enter Tryd.func66, Tryd.ntmps66
  go_wp2
  go_ret
  exact ⟨rfl, ((G.refl _).alloc _).alloc _⟩
set_option maxHeartbeats 1000000 in
theorem num_2 (y : Nat) (w : World) : Calls Tryd.prog 66 #[fv y, i2] w fun e w' => e = .returned (.bool true) ∧ G w w' := by
  unfold fv i2
  go_enter Tryd.func66, Tryd.ntmps66
  go_wp2
  go_ret
  exact ⟨rfl, ((G.refl _).alloc _).alloc _⟩
set_option maxHeartbeats 1000000 in
theorem nam_0 (a b : Nat) (w : World) : Calls Tryd.prog 67 #[.agg #[.map (some a), .map (some b)], i0] w fun e w' => e = .returned (.bool true) ∧ G w w' := by
  unfold i0
  go_enter Tryd.func67, Tryd.ntmps67
  go_wp2
  go_ret
  exact ⟨rfl, ((G.refl _).alloc _).alloc _⟩
set_option maxHeartbeats 1000000 in
theorem nam_2 (a b : Nat) (w : World) : Calls Tryd.prog 67 #[.agg #[.map (some a), .map (some b)], i2] w fun e w' => e = .returned (.bool true) ∧ G w w' := by
  unfold i2
  go_enter Tryd.func67, Tryd.ntmps67
  go_wp2
  go_ret
  exact ⟨rfl, ((G.refl _).alloc _).alloc _⟩
set_option maxHeartbeats 1000000 in
theorem nam_1 (z a b : Nat) (w : World) : Calls Tryd.prog 67 #[.agg #[.map (some a), .map (some b)], i1 z] w fun e w' => e = .returned (.bool true) ∧ G w w' := by
  unfold i1
  go_enter Tryd.func67, Tryd.ntmps67
  go_wp2_with (first | (go_at_call 74; refine (callee_printG _ _ _).mono ?_; rintro e w1 ⟨rfl, hb⟩))
  go_ret
  exact ⟨rfl, (((G.refl _).alloc _).alloc _).trans hb⟩
end Go.Proofs.YthkkoppnenfnfaaDoor
