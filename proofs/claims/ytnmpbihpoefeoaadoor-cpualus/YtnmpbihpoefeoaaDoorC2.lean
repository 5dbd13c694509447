/- Walks of the little machine: sums, whether it is over, its beginning's state. -/
import Derived.Test.YtnmpbihpoefeoaaDoorC1
namespace Go.Proofs.YtnmpbihpoefeoaaDoor
open Go.RowKit Go.Shelf
set_option maxHeartbeats 1000000 in
theorem sum20_add (op a b : Int) (ho : op = 22 ∨ op = 35) (a0 : 0 ≤ a) (b0 : 0 ≤ b) (h : a + b < 18446744073709551616) (w : World) : Calls Tryd.prog 20 #[.int .i64 op, .int .u64 a, .int .u64 b] w fun e w' => e = .returned (.tuple #[.int .u64 (a + b), .bool false]) ∧ w' = w := by
  rcases ho with rfl | rfl
  · go_enter Tryd.func20, Tryd.ntmps20
    go_wp2
    go_ret2
    exact ⟨rfl, rfl⟩
  · go_enter Tryd.func20, Tryd.ntmps20
    go_wp2
    go_ret2
    exact ⟨rfl, rfl⟩
set_option maxHeartbeats 1000000 in
theorem alu7_add (op a b : Int) (ho : op = 22 ∨ op = 35) (a0 : 0 ≤ a) (b0 : 0 ≤ b) (h : a + b < 18446744073709551616) (w : World) : Calls Tryd.prog 7 #[.int .i64 op, .int .u64 a, .int .u64 b] w fun e w' => e = .returned (.tuple #[.int .u64 (a + b), .int .i64 0]) ∧ w' = w := by
  have hs := sum20_add op a b ho a0 b0 h
  have h1 : 22 ≤ op ∧ op ≤ 62 := by omega
  clear ho h
  go_enter Tryd.func7, Tryd.ntmps7
  go_wp2_with ((go_at_call 20; refine (hs _).mono ?_; rintro e w' ⟨rfl, rfl⟩))
  go_ret2
  exact ⟨rfl, rfl⟩
set_option maxHeartbeats 1000000 in
theorem second64_n (op b n : Int) (ho : op < 35) (w : World) : Calls Tryd.prog 64 #[.int .i64 op, .int .u64 b, .int .u64 n] w fun e w' => e = .returned (.int .u64 n) ∧ w' = w := by
  go_enter Tryd.func64, Tryd.ntmps64
  go_wp2
  go_ret
  exact ⟨rfl, rfl⟩
/-- The cells of the little machine. -/
def mcs (pc x10 x17 st : Int) (h : Bool) (code : Int) (mem : Nat) : List Value :=
  [.int .u64 pc, .int .u64 0, .int .u64 0, .int .u64 0, .int .u64 0, .int .u64 0, .int .u64 0, .int .u64 0, .int .u64 0, .int .u64 0, .int .u64 0, .int .u64 x10, .int .u64 0, .int .u64 0, .int .u64 0, .int .u64 0, .int .u64 0, .int .u64 0, .int .u64 x17, .int .u64 0, .int .u64 0, .int .u64 0, .int .u64 0, .int .u64 0, .int .u64 0, .int .u64 0, .int .u64 0, .int .u64 0, .int .u64 0, .int .u64 0, .int .u64 0, .int .u64 0, .int .u64 0, .int .i64 st, .bool h, .int .i64 code, .int .i64 0, .slice none 0 0, .int .i64 0, .pointer (some ⟨mem, 0, none⟩), .slice none 0 0]
/-- The machine lies in a block. -/
structure Mac (W : World) (m : Nat) (pc x10 x17 st : Int) (h : Bool) (code : Int) (mem : Nat) : Prop where
  blk : W.heap[m]? = some (.cells (mcs pc x10 x17 st h code mem).toArray 72)
theorem Mac.at_ {W : World} {m : Nat} {pc x10 x17 st : Int} {h : Bool} {code : Int} {mem : Nat} (H : Mac W m pc x10 x17 st h code mem) (o : Nat) : W.cell? ⟨m, o, none⟩ = (mcs pc x10 x17 st h code mem)[o]? := by
  simp [World.cell?, H.blk]
theorem Mac.fz {W : World} {m : Nat} {pc x10 x17 st : Int} {h : Bool} {code : Int} {mem : Nat} (H : Mac W m pc x10 x17 st h code mem) (o : Nat) : W.frozen? ⟨m, o, none⟩ = false := by
  simp only [World.frozen?, H.blk]
  simp
theorem Mac.below {W W' : World} {m : Nat} {pc x10 x17 st : Int} {h : Bool} {code : Int} {mem : Nat} (H : Mac W m pc x10 x17 st h code mem) (hb : Below W.heap.size W W') : Mac W' m pc x10 x17 st h code mem := ⟨(hb.block m (lt_of_some H.blk)).trans H.blk⟩
set_option maxHeartbeats 1000000 in
theorem over30 {W : World} {m : Nat} {pc x10 x17 st : Int} {h : Bool} {code : Int} {mem : Nat} (H : Mac W m pc x10 x17 st h code mem) : Calls Tryd.prog 30 #[.pointer (some ⟨m, 0, none⟩)] W fun e w' => e = .returned (.bool h) ∧ w' = W := by
  have h34 : W.cell? ⟨m, 34, none⟩ = some (.bool h) := H.at_ 34
  have h36 : W.cell? ⟨m, 36, none⟩ = some (.int .i64 0) := H.at_ 36
  have hs := lt_of_some H.blk
  clear H
  cases h
  · go_enter Tryd.func30, Tryd.ntmps30
    go_wp2
    go_ret
    exact ⟨rfl, rfl⟩
  · go_enter Tryd.func30, Tryd.ntmps30
    go_wp2
    go_ret
    exact ⟨rfl, rfl⟩
end Go.Proofs.YtnmpbihpoefeoaaDoor
