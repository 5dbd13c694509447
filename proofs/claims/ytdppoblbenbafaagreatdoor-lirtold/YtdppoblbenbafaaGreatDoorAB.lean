/- The three instructions of the little program, looked at. The three instructions of the little program are right. -/
import Derived.Test.YtdppoblbenbafaaGreatDoorGG
namespace Go.Proofs.YtdppoblbenbafaaGreatDoor
section
open Go.RowKit Go.Shelf
set_option maxHeartbeats 1000000 in
theorem callee_printG (m1 m2 : Value) (w : World) : Calls Tryz.prog 152 #[.agg #[m1, m2], .string ⟨#[114, 116, 46, 112, 114, 105, 110, 116]⟩, .int .i64 1] w fun e w' => e = .returned (.bool true) ∧ G w w' := by
  go_enter Tryz.func152, Tryz.ntmps152
  go_wp2_with (first | (go_at_call 99; refine (rta_print _).mono ?_; rintro e w' ⟨rfl, rfl⟩))
  go_ret
  exact ⟨rfl, (G.refl _).alloc _⟩
def rtp : ByteArray := ⟨#[114, 116, 46, 112, 114, 105, 110, 116]⟩
/-- The function's value, and the three instructions' (y: where the call's arguments lie). -/
def fv (y : Nat) : Value := .agg #[.string ⟨#[109, 97, 105, 110]⟩, .int .i64 0, .int .i64 1, .int .i64 0, .slice (some ⟨y, 0, none⟩) 1 1]
def i0 : Value := .agg #[.int .i64 1, .int .i64 0, .int .i64 0, .int .i64 0, .int .i64 7, .string ⟨#[]⟩, .slice none 0 0, .int .i64 0, .int .i64 0]
def i1 (y : Nat) : Value := .agg #[.int .i64 7, .int .i64 (-1), .int .i64 0, .int .i64 0, .int .i64 0, .string ⟨#[114, 116, 46, 112, 114, 105, 110, 116]⟩, .slice (some ⟨y, 0, none⟩) 1 1, .int .i64 0, .int .i64 0]
def i2 : Value := .agg #[.int .i64 10, .int .i64 0, .int .i64 (-1), .int .i64 0, .int .i64 0, .string ⟨#[]⟩, .slice none 0 0, .int .i64 0, .int .i64 0]
set_option maxHeartbeats 1000000 in
theorem num_0 (y : Nat) (w : World) : Calls Tryz.prog 127 #[fv y, i0] w fun e w' => e = .returned (.bool true) ∧ G w w' := by
  unfold fv i0
  go_enter Tryz.func127, Tryz.ntmps127
  go_wp2
  go_ret
  exact ⟨rfl, ((G.refl _).alloc _).alloc _⟩
set_option maxHeartbeats 1000000 in
theorem num_1 (y z : Nat) (w : World) : Calls Tryz.prog 127 #[fv y, i1 z] w fun e w' => e = .returned (.bool true) ∧ G w w' := by
  unfold fv i1
  go_enter Tryz.func127, Tryz.ntmps127
  go_wp2
  go_ret
  exact ⟨rfl, ((G.refl _).alloc _).alloc _⟩
set_option maxHeartbeats 1000000 in
theorem num_2 (y : Nat) (w : World) : Calls Tryz.prog 127 #[fv y, i2] w fun e w' => e = .returned (.bool true) ∧ G w w' := by
  unfold fv i2
  go_enter Tryz.func127, Tryz.ntmps127
  go_wp2
  go_ret
  exact ⟨rfl, ((G.refl _).alloc _).alloc _⟩
set_option maxHeartbeats 1000000 in
theorem nam_0 (a b : Nat) (w : World) : Calls Tryz.prog 128 #[.agg #[.map (some a), .map (some b)], i0] w fun e w' => e = .returned (.bool true) ∧ G w w' := by
  unfold i0
  go_enter Tryz.func128, Tryz.ntmps128
  go_wp2
  go_ret
  exact ⟨rfl, ((G.refl _).alloc _).alloc _⟩
set_option maxHeartbeats 1000000 in
theorem nam_2 (a b : Nat) (w : World) : Calls Tryz.prog 128 #[.agg #[.map (some a), .map (some b)], i2] w fun e w' => e = .returned (.bool true) ∧ G w w' := by
  unfold i2
  go_enter Tryz.func128, Tryz.ntmps128
  go_wp2
  go_ret
  exact ⟨rfl, ((G.refl _).alloc _).alloc _⟩
set_option maxHeartbeats 1000000 in
theorem nam_1 (z a b : Nat) (w : World) : Calls Tryz.prog 128 #[.agg #[.map (some a), .map (some b)], i1 z] w fun e w' => e = .returned (.bool true) ∧ G w w' := by
  unfold i1
  go_enter Tryz.func128, Tryz.ntmps128
  go_wp2_with (first | (go_at_call 152; refine (callee_printG _ _ _).mono ?_; rintro e w1 ⟨rfl, hb⟩))
  go_ret
  exact ⟨rfl, (((G.refl _).alloc _).alloc _).trans hb⟩
end
section
open Go.RowKit Go.Shelf
/-- What is asked of the table of forms here. -/
structure Tf (w : World) : Prop where
  c1 : w.cell? ⟨0, 3, none⟩ = some (.string ⟨#[68, 78]⟩)
  c7 : w.cell? ⟨0, 15, none⟩ = some (.string ⟨#[68, 83, 82]⟩)
  c10 : w.cell? ⟨0, 21, none⟩ = some (.string ⟨#[65]⟩)
  pos : 0 < w.heap.size
theorem Tf.below {w w1 : World} (h : Tf w) (hb : Below w.heap.size w w1) : Tf w1 :=
  ⟨by rw [hb.cell (p := ⟨0, 3, none⟩) h.pos]; exact h.c1, by rw [hb.cell (p := ⟨0, 15, none⟩) h.pos]; exact h.c7, by rw [hb.cell (p := ⟨0, 21, none⟩) h.pos]; exact h.c10, Nat.lt_of_lt_of_le h.pos hb.size⟩
theorem bel_t (n e : Int) (h : 0 ≤ n ∧ n < e) (w : World) : Calls Tryz.prog 126 #[.int .i64 n, .bool true, .int .i64 e] w fun r w' => r = .returned (.bool true) ∧ w' = w := by
  have t := below65 n true e w
  rw [show belB n true e = true by simp [belB]; omega] at t
  exact t
theorem bel_f (e : Int) (w : World) : Calls Tryz.prog 126 #[.int .i64 0, .bool false, .int .i64 e] w fun r w' => r = .returned (.bool true) ∧ w' = w := below65 0 false e w
end
end Go.Proofs.YtdppoblbenbafaaGreatDoor
