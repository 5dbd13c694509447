/- Walks of the little machine: its beginning, its end. -/
import Derived.Test.YtnmpbihpoefeoaaDoorC5
import Derived.Test.YtnmpbihpoefeoaaDoorN1
namespace Go.Proofs.YtnmpbihpoefeoaaDoor
open Go.RowKit Go.Shelf
/-- The cells of a state. -/
def ccs (pc x10 x17 st : Int) (h : Bool) (code : Int) : List Value :=
  [.int .u64 pc, .int .u64 0, .int .u64 0, .int .u64 0, .int .u64 0, .int .u64 0, .int .u64 0, .int .u64 0, .int .u64 0, .int .u64 0, .int .u64 0, .int .u64 x10, .int .u64 0, .int .u64 0, .int .u64 0, .int .u64 0, .int .u64 0, .int .u64 0, .int .u64 x17, .int .u64 0, .int .u64 0, .int .u64 0, .int .u64 0, .int .u64 0, .int .u64 0, .int .u64 0, .int .u64 0, .int .u64 0, .int .u64 0, .int .u64 0, .int .u64 0, .int .u64 0, .int .u64 0, .int .i64 st, .bool h, .int .i64 code, .int .i64 0, .slice none 0 0, .int .i64 0]
def c0 : List Value := ccs 4096 0 0 0 false 0
theorem c0At1 : c0[1]? = some (.int .u64 0) := rfl
theorem c0At33 : c0[33]? = some (.int .i64 0) := rfl
theorem c0At35 : c0[35]? = some (.int .i64 0) := rfl
theorem c0At36 : c0[36]? = some (.int .i64 0) := rfl
theorem c0At38 : c0[38]? = some (.int .i64 0) := rfl
set_option maxRecDepth 20000 in
set_option maxHeartbeats 1000000 in
theorem right26 (w : World) : Calls Tryd.prog 26 #[.agg c0.toArray, .int .i64 0] w fun e w' => e = .returned (.bool true) ∧ Below w.heap.size w w' := by
  have q1 := c0At1
  have q33 := c0At33
  have q35 := c0At35
  have q36 := c0At36
  have q38 := c0At38
  go_enter Tryd.func26, Tryd.ntmps26
  go_wp2
  go_ret
  exact ⟨rfl, ((Below.refl _ _).alloc (Nat.le_refl _) _)⟩
theorem eql_nil35 (W : World) : (binOp .eql 35 (.slice none 0 0) (.slice none 0 0)).run Tryd.prog W = .ok (.bool true) W := by kernel_rfl
set_option maxHeartbeats 1000000 in
theorem clone29_nil (w : World) : Calls Tryd.prog 29 #[.slice none 0 0] w fun e w' => e = .returned (.slice none 0 0) ∧ w' = w := by
  have hq := eql_nil35
  go_enter Tryd.func29, Tryd.ntmps29
  go_wp2
  go_ret
  exact ⟨rfl, rfl⟩
theorem range_new2 (w : World) (cs : List Value) (ds : Array Value) (t : TypeId) : ((w.alloc (.cells cs.toArray t)).alloc (.cells ds t)).rangeAt w.heap.size 0 cs := fun j v hv => by
  rw [Nat.zero_add]
  simpa using hv
theorem there_new2 (w : World) (x : Obj) (cs : List Value) (t : TypeId) {n : Nat} (hn : n = 39) (hc : cs.length = 39) : ((w.alloc x).alloc (.cells cs.toArray t)).there (w.heap.size + 1) 0 n := fun j hj => by
  rw [Nat.zero_add]
  constructor
  · simp [hc, ← hn, hj]
  · simp
theorem ccs_one (pc x10 x17 st : Int) (h : Bool) (code : Int) : ((ccs pc x10 x17 st h code).toArray.all (·.oneCell')) = true := by kernel_rfl
theorem ccs37 (pc x10 x17 st : Int) (h : Bool) (code : Int) : (ccs pc x10 x17 st h code)[37]? = some (.slice none 0 0) := rfl
set_option maxRecDepth 20000 in
set_option maxHeartbeats 1000000 in
theorem copied28 (pc x10 x17 st : Int) (h : Bool) (code : Int) (w : World) : Calls Tryd.prog 28 #[.agg (ccs pc x10 x17 st h code).toArray] w fun e w' => e = .returned (.agg (ccs pc x10 x17 st h code).toArray) ∧ Below w.heap.size w w' := by
  have q37 := ccs37 pc x10 x17 st h code
  have hl : Hid ((ccs pc x10 x17 st h code).length = 39) := rfl
  have HO : Hid ((ccs pc x10 x17 st h code).toArray.all (·.oneCell') = true) := ccs_one pc x10 x17 st h code
  have hset : (ccs pc x10 x17 st h code).set 37 (.slice none 0 0) = ccs pc x10 x17 st h code := rfl
  generalize ccs pc x10 x17 st h code = L at *
  go_enter Tryd.func28, Tryd.ntmps28
  go_wp2_with fail
  refine (clone29_nil _).mono ?_
  rintro e w1 ⟨rfl, h1⟩
  subst h1
  go_wp2_with (first | (refine wpList_load_guard rfl 37 _ rfl w.heap.size 0 rfl L _ (range_new2 w _ _ 37) Tryd.underlying37 rfl (by rw [hl.out]; exact info37) ?_) | (refine wpList_store_mid rfl 37 _ _ rfl (w.heap.size + 1) 0 L.toArray rfl rfl (there_new2 w _ zC 37 (by rw [List.size_toArray]; exact hl.out) rfl) (by rw [List.size_toArray, hl.out]; exact info37) HO.out ?_) | go_in)
  refine bodyPost_ret (v := .agg L.toArray) (results_cell Tryd.results28 (w.heap.size + 1) rfl L _ (World.rangeAt_setCells_same _ _ _ L (there_new2 w _ zC 37 hl.out rfl)) Tryd.underlying37 rfl (by rw [hl.out]; exact info37)) rfl ⟨rfl, ?_⟩
  exact below_setCells (((Below.refl _ _).alloc (Nat.le_refl _) _).alloc (by simp) _) _ _ (by omega) _
end Go.Proofs.YtnmpbihpoefeoaaDoor
