/- A map of pages by their Base: what a look-up and a store do. -/
import Derived.Test.YtndbkkldfinggabM6
import Derived.MapKept
namespace Go.Proofs.Ytndbkkldfinggab
open Go.RowKit Go.Shelf
/-- An entry of the map: a page of 4096 bytes that may be read and written. -/
def ent (k : Int) (g : Nat) (c : Nat) : MapEntry := { key := .int .u64 k, val := .agg #[.int .u64 k, .int .i64 6, .slice (some ⟨g, 0, none⟩) 4096 4096], born := c }
def zPage : Value := .agg #[.int .u64 0, .int .i64 0, .slice none 0 0]
theorem und42' : Try.prog.underlying 65 = some (.map 23 62) := by kernel_rfl
theorem check23 (em : Bool) (k : Int) (W : World) : (Instr.checkKey em 10000 23 (.int .u64 k)).run Try.prog W = .ok () W := Go.MapKept.run_checkKey Try.underlying23 (by simp [Go.MapKept.IsKey]) em 9999
/-- What a look-up finds. -/
def found : Option (Nat × Value) → Value
  | some (_, v) => .tuple #[v, .bool true]
  | none => .tuple #[zPage, .bool false]
theorem look42 (r : Nat) (k : Int) (es : Array MapEntry) (clock : Nat) (a : Option (Nat × Value)) (W : World) (hr : W.heap[r]? = some (.map es clock)) (hf : Instr.findNow (.int .u64) (.int .u64 k) es.toList 0 = some a) : (Instr.lookup 65 (.map (some r)) (.int .u64 k) true).run Try.prog W = .ok (found a) W := by
  unfold Instr.lookup
  cases a with
  | none => simp [Sem.run_bind, run_underlying und42', run_getObj_map W r es clock hr, check23, Go.MapKept.run_findKey Try.underlying23 hf, found]; rfl
  | some x => simp [Sem.run_bind, run_underlying und42', run_getObj_map W r es clock hr, check23, Go.MapKept.run_findKey Try.underlying23 hf, found]
theorem upd42 (r : Nat) (k : Int) (v : Value) (es : Array MapEntry) (clock : Nat) (W : World) (hr : W.heap[r]? = some (.map es clock)) (hf : Instr.findNow (.int .u64) (.int .u64 k) es.toList 0 = some none) : (Instr.mapUpdate 65 (.map (some r)) (.int .u64 k) v).run Try.prog W = .ok () (W.putObj r (.map (es.push { key := .int .u64 k, val := v, born := clock }) (clock + 1))) := by
  unfold Instr.mapUpdate
  simp [Sem.run_bind, run_underlying und42', run_getObj_map W r es clock hr, check23, Go.MapKept.run_findKey Try.underlying23 hf, Go.MapKept.run_setObj_map _ hr, World.putObj]
set_option maxRecDepth 20000 in
set_option maxHeartbeats 1000000 in
theorem page25_hit (b r g i : Nat) (k : Int) (es : Array MapEntry) (clock : Nat) (W : World) (hc : W.cell? ⟨b, 0, none⟩ = some (.map (some r))) (hb : b < W.heap.size) (hr : W.heap[r]? = some (.map es clock)) (hf : Instr.findNow (.int .u64) (.int .u64 k) es.toList 0 = some (some (i, .agg #[.int .u64 k, .int .i64 6, .slice (some ⟨g, 0, none⟩) 4096 4096]))) :
    Calls Try.prog 40 #[.pointer (some ⟨b, 0, none⟩), .int .u64 k] W fun e w' => e = .returned (.tuple #[.agg #[.int .u64 k, .int .i64 6, .slice (some ⟨g, 0, none⟩) 4096 4096], .bool true]) ∧ Below W.heap.size W w' := by
  have HL : Hid (∀ W', W'.heap[r]? = some (.map es clock) → (Instr.lookup 65 (.map (some r)) (.int .u64 k) true).run Try.prog W' = .ok (.tuple #[.agg #[.int .u64 k, .int .i64 6, .slice (some ⟨g, 0, none⟩) 4096 4096], .bool true]) W') := fun W' h => look42 r k es clock _ W' h hf
  have hl := HL.out (W.alloc (.cells #[.int .u64 0, .int .i64 0, .slice none 0 0] 62)) (heap_on hr _)
  clear hr hf
  go_enter Try.func40, Try.ntmps40
  go_wp2
  refine bodyPost_ret (v := .tuple #[.agg #[.int .u64 k, .int .i64 6, .slice (some ⟨g, 0, none⟩) 4096 4096], .bool true]) (by simp [results, Try.results40, go_sem]) rfl ⟨rfl, ?_⟩
  exact ((Below.refl _ _).alloc (Nat.le_refl _) _).alloc (by simp) _
set_option maxRecDepth 20000 in
set_option maxHeartbeats 1000000 in
theorem page25_miss (b r : Nat) (k : Int) (es : Array MapEntry) (clock : Nat) (W : World) (hc : W.cell? ⟨b, 0, none⟩ = some (.map (some r))) (hb : b < W.heap.size) (hr : W.heap[r]? = some (.map es clock)) (hf : Instr.findNow (.int .u64) (.int .u64 k) es.toList 0 = some none) :
    Calls Try.prog 40 #[.pointer (some ⟨b, 0, none⟩), .int .u64 k] W fun e w' => e = .returned (.tuple #[.agg #[.int .u64 0, .int .i64 0, .slice none 0 0], .bool false]) ∧ Below W.heap.size W w' := by
  have HL : Hid (∀ W', W'.heap[r]? = some (.map es clock) → (Instr.lookup 65 (.map (some r)) (.int .u64 k) true).run Try.prog W' = .ok (.tuple #[.agg #[.int .u64 0, .int .i64 0, .slice none 0 0], .bool false]) W') := fun W' h => look42 r k es clock _ W' h hf
  have hl := HL.out (W.alloc (.cells #[.int .u64 0, .int .i64 0, .slice none 0 0] 62)) (heap_on hr _)
  clear hr hf
  go_enter Try.func40, Try.ntmps40
  go_wp2
  refine bodyPost_ret (v := .tuple #[.agg #[.int .u64 0, .int .i64 0, .slice none 0 0], .bool false]) (by simp [results, Try.results40, go_sem]) rfl ⟨rfl, ?_⟩
  exact ((Below.refl _ _).alloc (Nat.le_refl _) _).alloc (by simp) _
end Go.Proofs.Ytndbkkldfinggab
