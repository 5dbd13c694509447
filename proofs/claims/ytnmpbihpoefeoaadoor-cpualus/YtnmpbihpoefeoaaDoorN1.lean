/- Walks of a nil machine: its steps, its runs, its pages; a name. -/
import Derived.Test.YtnmpbihpoefeoaaDoorN2
namespace Go.Proofs.YtnmpbihpoefeoaaDoor
open Go.RowKit
set_option maxHeartbeats 1000000 in
theorem step18_nil (w : World) : Calls Tryd.prog 18 #[.pointer none] w fun e w' => e = .returned (.int .i64 30) ∧ w' = w := by
  go_enter Tryd.func18, Tryd.ntmps18
  go_wp2
  go_ret
  exact ⟨rfl, rfl⟩
set_option maxHeartbeats 1000000 in
theorem over30_nil (w : World) : Calls Tryd.prog 30 #[.pointer none] w fun e w' => e = .returned (.bool true) ∧ w' = w := by
  go_enter Tryd.func30, Tryd.ntmps30
  go_wp2
  go_ret
  exact ⟨rfl, rfl⟩
set_option maxHeartbeats 1000000 in
theorem pages17_nil (w : World) : Calls Tryd.prog 17 #[.pointer none] w fun e w' => e = .returned (.slice none 0 0) ∧ w' = w := by
  go_enter Tryd.func17, Tryd.ntmps17
  go_wp2
  go_ret
  exact ⟨rfl, rfl⟩
set_option maxHeartbeats 1000000 in
theorem run13_nil (n : Int) (w : World) : Calls Tryd.prog 13 #[.pointer none, .int .i64 n] w fun e w' => e = .returned (.int .i64 0) ∧ w' = w := by
  by_cases hn : 0 < n
  · go_enter Tryd.func13, Tryd.ntmps13
    go_wp2_with fail
    go_loopw [5] (fun x wr => x = .int .i64 0 ∧ wr = w) (fun _ _ => 0)
    case atStart => exact ⟨rfl, rfl⟩
    case round =>
      obtain ⟨rfl, rfl⟩ := hrel
      go_wp2_with ((go_at_call 30; refine (over30_nil _).mono ?_; rintro e w' ⟨rfl, rfl⟩))
      go_ret
      exact ⟨rfl, rfl⟩
  · go_enter Tryd.func13, Tryd.ntmps13
    go_wp2_with fail
    go_loopw [5] (fun x wr => x = .int .i64 0 ∧ wr = w) (fun _ _ => 0)
    case atStart => exact ⟨rfl, rfl⟩
    case round =>
      obtain ⟨rfl, rfl⟩ := hrel
      go_wp2
      go_ret
      exact ⟨rfl, rfl⟩
set_option maxHeartbeats 1000000 in
theorem name19_one (w : World) : Calls Tryd.prog 19 #[.int .i64 1] w fun e w' => e = .returned (.string ⟨#[108, 117, 105]⟩) ∧ Below w.heap.size w w' := by
  go_enter Tryd.func19, Tryd.ntmps19
  go_wp2
  go_ret
  exact ⟨rfl, (Below.refl _ _).alloc (Nat.le_refl _) _⟩
theorem conv_nil (W : World) : (convert 35 9 (.slice none 0 0)).run Tryd.prog W = .ok (.string ⟨#[]⟩) W := by kernel_rfl
set_option maxRecDepth 20000 in
set_option maxHeartbeats 1000000 in
theorem bytes31_nil (w : World) : Calls Tryd.prog 31 #[.slice none 0 0, .slice none 0 0] w fun e w' => e = .returned (.bool true) ∧ w' = w := by
  have hconv := conv_nil
  go_enter Tryd.func31, Tryd.ntmps31
  go_wp2
  go_ret
  exact ⟨rfl, rfl⟩
theorem zAt0 : zC[0]? = some (.int .u64 0) := rfl
theorem zAt33 : zC[33]? = some (.int .i64 0) := rfl
theorem zAt34 : zC[34]? = some (.bool false) := rfl
theorem zAt35 : zC[35]? = some (.int .i64 0) := rfl
theorem zAt36 : zC[36]? = some (.int .i64 0) := rfl
theorem zAt37 : zC[37]? = some (.slice none 0 0) := rfl
theorem zAt38 : zC[38]? = some (.int .i64 0) := rfl
theorem info34 : (Tryd.prog.info? 34).map (·.size) = some 32 := by kernel_rfl
theorem wpList_load_guard {P : Program} {ops : Array Oper} {rest : List Oper} {op : Oper} {a : Act} {w : World} {Q : Exit → Act → World → Prop} (hg : Region.wanted op (yielded ops a.tmps) = true) (ty : TypeId) (x : Operand) (ho : op.op = .load ty x)
    (b o : Nat) (hx : a.eval x = .pointer (some ⟨b, o, none⟩)) (cs : List Value) (d : TypeDesc) (hc : w.rangeAt b o cs)
    (hu : P.underlying ty = some d) (hd : d.isRow = true) (hi : (P.info? ty).map (·.size) = some cs.length)
    (h : wpList P ops Q rest (a.put op.dst (.agg cs.toArray)) w) : wpList P ops Q (op :: rest) a w :=
  wpList_step fun K hK => by rw [if_pos hg]; exact wp_load_mid ty x ho b o hx cs d hc hu hd hi (hK _ _ h)
theorem eql_zero (w : World) : (Op.equalIn 10000 34 (.agg zR.toArray) (.agg zR.toArray)).run Tryd.prog w = .ok true w := by kernel_rfl
theorem zC_regs {j : Nat} (hj : j < 32) : zC[1 + j]? = zR[j]? := by
  rw [show zC = .int .u64 0 :: (zR ++ [.int .i64 0, .bool false, .int .i64 0, .int .i64 0, .slice none 0 0, .int .i64 0]) from rfl, Nat.add_comm, List.getElem?_cons_succ, List.getElem?_append_left (by exact hj)]
theorem range_first (w : World) : ((w.alloc (.cells zC.toArray 37)).alloc (.cells zC.toArray 37)).rangeAt w.heap.size 1 zR := fun j v hv => by
  simp [zC_regs (List.getElem?_eq_some_iff.1 hv).1, hv]
theorem range_second (w : World) : ((w.alloc (.cells zC.toArray 37)).alloc (.cells zC.toArray 37)).rangeAt (w.heap.size + 1) 1 zR := fun j v hv => by
  simp [zC_regs (List.getElem?_eq_some_iff.1 hv).1, hv]
set_option maxRecDepth 20000 in
set_option maxHeartbeats 1000000 in
theorem cpu15_zero (w : World) : Calls Tryd.prog 15 #[.agg zC.toArray, .agg zC.toArray] w fun e w' => e = .returned (.bool true) ∧ Below w.heap.size w w' := by
  have q0 := zAt0
  have q33 := zAt33
  have q34 := zAt34
  have q35 := zAt35
  have q36 := zAt36
  have q37 := zAt37
  have q38 := zAt38
  have heql := eql_zero
  go_enter Tryd.func15, Tryd.ntmps15
  go_wp2_with (first | (refine wpList_load_guard rfl 34 _ rfl w.heap.size 1 rfl zR _ (range_first w) Tryd.underlying34 rfl info34 ?_) | (refine wpList_load_guard rfl 34 _ rfl (w.heap.size + 1) 1 rfl zR _ (range_second w) Tryd.underlying34 rfl info34 ?_) | (go_at_call 31; refine (bytes31_nil _).mono ?_; rintro e w' ⟨rfl, h'⟩; subst h') | go_in)
  go_ret
  exact ⟨rfl, ((Below.refl _ _).alloc (Nat.le_refl _) _).alloc (by simp) _⟩
end Go.Proofs.YtnmpbihpoefeoaaDoor
