/- Of a memory: From and Fetch (MA). -/
import Derived.Test.YtnmpbihpoefeoaaDoorProg
import Derived.WalkKit
import Derived.WalkSpells
import Derived.WalkLawsBesides
import Derived.LoopTactic
import Derived.Deep.QuietTactic
import Derived.WalkSmall
import Derived.RangeFuncNested
import Derived.RangeFuncBound
import Derived.RangeFuncCalls
import Derived.RangeFuncLeaves
import Derived.RangeFuncFrom
import Derived.Shelf.Abstract
import Derived.Shelf.RegionOpen
import Derived.OwnWalkIn
import Derived.TacticsInMore
import Derived.LoopNIn
import Derived.LoopIn
import Derived.Deep.RegionWith
import Derived.MapKept
import Derived.Deep.RegionHeld3
import Derived.RegionTactic
import Derived.RangeFuncWrites
import Derived.Laws.BitsAllLaws
import Derived.Laws.OwnMore
import Derived.Lib.SliceRun
import Derived.BigQuiet
namespace Go.Proofs.YtnmpbihpoefeoaaDoor
open Go.RowKit Go.Shelf
theorem dec_or {p q : Prop} [Decidable p] [Decidable q] (h : ¬ p) : decide q = (decide p || decide q) := by simp [h]
theorem ret_bool {a b : Bool} (h : a = b) : Ending.returned (.bool a) = .returned (.bool b) := by rw [h]
set_option maxHeartbeats 1000000 in
theorem beyond12 (at_ n : Int) (a0 : 0 ≤ at_) (a1 : at_ < 18446744073709551616) (_n0 : 0 ≤ n) (_n1 : n < 18446744073709551616) (w : World) : Calls Tryd.prog 81 #[.int .u64 at_, .int .u64 n] w fun e w' => e = .returned (.bool (decide (281474976710656 ≤ at_ ∨ 281474976710656 - at_ < n))) ∧ w' = w := by
  by_cases h : 281474976710656 ≤ at_
  · go_enter Tryd.func81, Tryd.ntmps81
    go_wp2
    all_goals go_ret
    all_goals exact ⟨ret_bool (by simp [h]), rfl⟩
  · go_enter Tryd.func81, Tryd.ntmps81
    go_wp2
    all_goals go_ret
    all_goals exact ⟨ret_bool (dec_or (by omega)), rfl⟩
theorem ret_int {k : IntKind} {a b : Int} (h : a = b) : Ending.returned (.int k a) = .returned (.int k b) := by rw [h]
set_option maxHeartbeats 1000000 in
theorem base36 (p : Int) (a0 : 0 ≤ p) (a1 : p < 18446744073709551616) (w : World) : Calls Tryd.prog 82 #[.int .u64 p] w fun e w' => e = .returned (.int .u64 (p - p % 4096)) ∧ w' = w := by
  have q : p % 4096 ≤ p := by omega
  have q0 : 0 ≤ p % 4096 := by omega
  go_enter Tryd.func82, Tryd.ntmps82
  go_wp2
  go_ret
  exact ⟨rfl, rfl⟩
set_option maxHeartbeats 1000000 in
theorem new21 (w : World) : Calls Tryd.prog 41 #[] w fun e w' => e = .returned (.pointer (some ⟨w.heap.size + 1, 0, none⟩)) ∧ w' = (w.alloc (.map #[] 0)).alloc (.cells #[.map (some w.heap.size)] 84) := by
  have hmm := @run_makeMap Tryd.prog
  go_enter Tryd.func41, Tryd.ntmps41
  go_wp2
  go_ret
  exact ⟨rfl, rfl⟩
theorem heap_at (w : World) (o : Obj) : (w.alloc o).heap[w.heap.size]? = some o := World.alloc_heap_new w o
theorem heap_on {w : World} {r : Nat} {x : Obj} (h : w.heap[r]? = some x) (o : Obj) : (w.alloc o).heap[r]? = some x := (Below.heap_alloc w o r (Array.getElem?_eq_some_iff.1 h).1).trans h
/-- An entry of the map: a page of 4096 bytes that may be read and written. -/
def ent (k : Int) (g : Nat) (c : Nat) : MapEntry := { key := .int .u64 k, val := .agg #[.int .u64 k, .int .i64 6, .slice (some ⟨g, 0, none⟩) 4096 4096], born := c }
def zPage : Value := .agg #[.int .u64 0, .int .i64 0, .slice none 0 0]
theorem und42' : Tryd.prog.underlying 82 = some (.map 22 51) := by kernel_rfl
theorem check23 (em : Bool) (k : Int) (W : World) : (Instr.checkKey em 10000 22 (.int .u64 k)).run Tryd.prog W = .ok () W := Go.MapKept.run_checkKey Tryd.underlying22 (by simp [Go.MapKept.IsKey]) em 9999
/-- What a look-up finds. -/
def found : Option (Nat × Value) → Value
  | some (_, v) => .tuple #[v, .bool true]
  | none => .tuple #[zPage, .bool false]
theorem look42 (r : Nat) (k : Int) (es : Array MapEntry) (clock : Nat) (a : Option (Nat × Value)) (W : World) (hr : W.heap[r]? = some (.map es clock)) (hf : Instr.findNow (.int .u64) (.int .u64 k) es.toList 0 = some a) : (Instr.lookup 82 (.map (some r)) (.int .u64 k) true).run Tryd.prog W = .ok (found a) W := by
  unfold Instr.lookup
  cases a with
  | none => simp [Sem.run_bind, run_underlying und42', run_getObj_map W r es clock hr, check23, Go.MapKept.run_findKey Tryd.underlying22 hf, found]; rfl
  | some x => simp [Sem.run_bind, run_underlying und42', run_getObj_map W r es clock hr, check23, Go.MapKept.run_findKey Tryd.underlying22 hf, found]
theorem upd42 (r : Nat) (k : Int) (v : Value) (es : Array MapEntry) (clock : Nat) (W : World) (hr : W.heap[r]? = some (.map es clock)) (hf : Instr.findNow (.int .u64) (.int .u64 k) es.toList 0 = some none) : (Instr.mapUpdate 82 (.map (some r)) (.int .u64 k) v).run Tryd.prog W = .ok () (W.putObj r (.map (es.push { key := .int .u64 k, val := v, born := clock }) (clock + 1))) := by
  unfold Instr.mapUpdate
  simp [Sem.run_bind, run_underlying und42', run_getObj_map W r es clock hr, check23, Go.MapKept.run_findKey Tryd.underlying22 hf, Go.MapKept.run_setObj_map _ hr, World.putObj]
set_option maxRecDepth 20000 in
set_option maxHeartbeats 1000000 in
theorem page25_miss (b r : Nat) (k : Int) (es : Array MapEntry) (clock : Nat) (W : World) (hc : W.cell? ⟨b, 0, none⟩ = some (.map (some r))) (hb : b < W.heap.size) (hr : W.heap[r]? = some (.map es clock)) (hf : Instr.findNow (.int .u64) (.int .u64 k) es.toList 0 = some none) :
    Calls Tryd.prog 83 #[.pointer (some ⟨b, 0, none⟩), .int .u64 k] W fun e w' => e = .returned (.tuple #[.agg #[.int .u64 0, .int .i64 0, .slice none 0 0], .bool false]) ∧ Below W.heap.size W w' := by
  have HL : Hid (∀ W', W'.heap[r]? = some (.map es clock) → (Instr.lookup 82 (.map (some r)) (.int .u64 k) true).run Tryd.prog W' = .ok (.tuple #[.agg #[.int .u64 0, .int .i64 0, .slice none 0 0], .bool false]) W') := fun W' h => look42 r k es clock _ W' h hf
  have hl := HL.out (W.alloc (.cells #[.int .u64 0, .int .i64 0, .slice none 0 0] 51)) (heap_on hr _)
  clear hr hf
  go_enter Tryd.func83, Tryd.ntmps83
  go_wp2
  refine bodyPost_ret (v := .tuple #[.agg #[.int .u64 0, .int .i64 0, .slice none 0 0], .bool false]) (by simp [results, Tryd.results83, go_sem]) rfl ⟨rfl, ?_⟩
  exact ((Below.refl _ _).alloc (Nat.le_refl _) _).alloc (by simp) _
theorem below_putObj {B r : Nat} {a w : World} (h : Below B a w) (hr : B ≤ r) (o : Obj) : Below B a (w.putObj r o) :=
  ⟨h.os, h.tape, h.output, by simpa [World.putObj] using h.size, fun k hk => by rw [World.putObj_heap_other (by omega)]; exact h.block k hk⟩
theorem put_cell {w : World} {r b o : Nat} {x : Obj} (h : b ≠ r) : (w.putObj r x).cell? ⟨b, o, none⟩ = w.cell? ⟨b, o, none⟩ := by
  simp only [World.cell?, World.putObj_heap_other (w := w) (o := x) h]
theorem lt_of_some {w : World} {r : Nat} {x : Obj} (h : w.heap[r]? = some x) : r < w.heap.size := (Array.getElem?_eq_some_iff.1 h).1
set_option maxHeartbeats 1000000 in
theorem runs29 (b : Nat) (p n : Int) (w : World) : Calls Tryd.prog 70 #[.pointer (some ⟨b, 0, none⟩), .int .u64 p, .int .i64 n] w fun e w' => e = .returned (.func (.func 84) #[] #[.pointer (some ⟨w.heap.size + 1, 0, none⟩), .pointer (some ⟨w.heap.size + 1 + 1, 0, none⟩), .pointer (some ⟨w.heap.size, 0, none⟩)]) ∧ w' = (((w.alloc (.cells #[.pointer (some ⟨b, 0, none⟩)] 66)).alloc (.cells #[.int .u64 p] 22)).alloc (.cells #[.int .i64 n] 3)) := by
  go_enter Tryd.func70, Tryd.ntmps70
  go_wp2
  go_ret
  exact ⟨rfl, rfl⟩
/-- What an iterator over pieces of pages asks of a round: the map of pages and where it is kept stay. -/
def Keep (b r m : Nat) (W W' : World) : Prop := W'.heap[r]? = W.heap[r]? ∧ W'.cell? ⟨b, 0, none⟩ = W.cell? ⟨b, 0, none⟩ ∧ W'.cell? ⟨m, 0, none⟩ = W.cell? ⟨m, 0, none⟩ ∧ W.heap.size ≤ W'.heap.size
theorem Keep.trans {b r m : Nat} {A B C : World} (h : Keep b r m A B) (k : Keep b r m B C) : Keep b r m A C := ⟨k.1.trans h.1, k.2.1.trans h.2.1, k.2.2.1.trans h.2.2.1, Nat.le_trans h.2.2.2 k.2.2.2⟩
theorem Keep.below {b r m : Nat} {A B : World} (hb : Below A.heap.size A B) (h1 : r < A.heap.size) (h2 : b < A.heap.size) (h3 : m < A.heap.size) : Keep b r m A B := ⟨hb.block r h1, hb.cell (p := ⟨b, 0, none⟩) h2, hb.cell (p := ⟨m, 0, none⟩) h3, hb.size⟩
theorem grown_of_below {A B : World} (hb : Below A.heap.size A B) : A.grownBy B none := ⟨hb.os, hb.tape, hb.output, hb.size, fun k hk _ => hb.block k hk⟩
theorem Keep.grown {b r m : Nat} {A B : World} {row : Option Nat} (hg : A.grownBy B row) (h1 : r < A.heap.size) (h2 : b < A.heap.size) (h3 : m < A.heap.size) (n1 : some r ≠ row) (n2 : some b ≠ row) (n3 : some m ≠ row) : Keep b r m A B :=
  ⟨hg.block r h1 n1, by simp only [World.cell?, hg.block b h2 n2], by simp only [World.cell?, hg.block m h3 n3], hg.size⟩
structure St (w W0 W : World) (b r : Nat) (u v : Int) (W' : World) : Prop where
  b1 : Boxed W' w.heap.size 22 (.int .u64 u)
  b2 : Boxed W' (w.heap.size + 1) 3 (.int .i64 v)
  below : Below w.heap.size w W'
  keeps : KeepsFrom W0.heap.size W W'
  keep : Keep b r (w.heap.size + 1 + 1) W W'
theorem St.start {w W0 W : World} {b r : Nat} {u v : Int} (e1 : Boxed W w.heap.size 22 (.int .u64 u)) (e2 : Boxed W (w.heap.size + 1) 3 (.int .i64 v)) (hB : Below w.heap.size w W) : St w W0 W b r u v W := ⟨e1, e2, hB, KeepsFrom.refl _ _, ⟨rfl, rfl, rfl, Nat.le_refl _⟩⟩
theorem St.step {w W0 W W' W'' : World} {b r : Nat} {u v u' v' : Int} (h : St w W0 W b r u v W') {row : Option Nat} (hg : W'.grownBy W'' row) (hrow : ∀ k, row = some k → w.heap.size ≤ k ∧ k ≤ w.heap.size + 1) (l1 : r < w.heap.size) (l2 : b < w.heap.size) (hs : W0.heap.size = w.heap.size + 5) (hsz : W0.heap.size ≤ W.heap.size)
    (x1 : Boxed W'' w.heap.size 22 (.int .u64 u')) (x2 : Boxed W'' (w.heap.size + 1) 3 (.int .i64 v')) : St w W0 W b r u' v' W'' := by
  have z := h.keeps.size
  refine ⟨x1, x2, h.below.grown hg h.below.size (fun k e => (hrow k e).1), h.keeps.trans (KeepsFrom.of_grownBy hg (fun k e => by have := (hrow k e).2; omega)), h.keep.trans (Keep.grown hg (by omega) (by omega) (by omega) ?_ ?_ ?_)⟩
  · intro e; have := hrow _ e.symm; omega
  · intro e; have := hrow _ e.symm; omega
  · intro e; have := hrow _ e.symm; omega
theorem St.drew {w W0 W W' : World} {b r : Nat} {u v : Int} (h : St w W0 W b r u v W') : St w W0 W b r u v W'.drew := ⟨h.b1, h.b2, h.below.drew, ⟨h.keeps.size, h.keeps.same⟩, h.keep⟩
theorem St.set1 {w W0 W W' : World} {b r : Nat} {u v x u' : Int} (h : St w W0 W b r u v W') (hx : x = u') (l1 : r < w.heap.size) (l2 : b < w.heap.size) (hs : W0.heap.size = w.heap.size + 5) (hsz : W0.heap.size ≤ W.heap.size) : St w W0 W b r u' v (W'.setCell ⟨w.heap.size, 0, none⟩ (.int .u64 x)) := by
  subst hx
  exact h.step (grownBy_setCell' W' w.heap.size _) (fun k e => by cases e; omega) l1 l2 hs hsz (h.b1.set _) (h.b2.other (by omega) _)
theorem St.set2 {w W0 W W' : World} {b r : Nat} {u v x v' : Int} (h : St w W0 W b r u v W') (hx : x = v') (l1 : r < w.heap.size) (l2 : b < w.heap.size) (hs : W0.heap.size = w.heap.size + 5) (hsz : W0.heap.size ≤ W.heap.size) : St w W0 W b r u v' (W'.setCell ⟨w.heap.size + 1, 0, none⟩ (.int .i64 x)) := by
  subst hx
  exact h.step (grownBy_setCell' W' (w.heap.size + 1) _) (fun k e => by cases e; omega) l1 l2 hs hsz (h.b1.other (by omega) _) (h.b2.set _)
theorem cells_set {W : World} {g : Nat} {c : Array Value} {t : TypeId} (o : Nat) (v : Value) (h : W.heap[g]? = some (.cells c t)) : (W.setCell ⟨g, o, none⟩ v).heap[g]? = some (.cells (c.setIfInBounds o v) t) := by
  obtain ⟨hlt, hk⟩ := Array.getElem?_eq_some_iff.1 h
  show (W.heap.modify g _)[g]? = _
  rw [Array.getElem?_eq_getElem (by rw [Array.size_modify]; exact hlt), Array.getElem_modify_self, hk]
  rfl
theorem grown_set (W : World) (g o : Nat) (v : Value) : W.grownBy (W.setCell ⟨g, o, none⟩ v) (some g) :=
  ⟨rfl, rfl, rfl, by simp, fun k _ hne => Below.heap_setCell _ _ _ _ (fun e => hne (by rw [e]))⟩
/-- A page that a memory keeps: its Base, its Perm, the block of its bytes, and how many it could have. -/
structure Pgd where
  k : Int
  p : Int
  g : Nat
  c : Nat
def pval (x : Pgd) : Value := .agg #[.int .u64 x.k, .int .i64 x.p, .slice (some ⟨x.g, 0, none⟩) 4096 x.c]
def entsFrom : Nat → List Pgd → List MapEntry
  | _, [] => []
  | n, x :: r => { key := .int .u64 x.k, val := pval x, born := n } :: entsFrom (n + 1) r
theorem entsFrom_snoc (x : Pgd) : ∀ (ps : List Pgd) (n : Nat), entsFrom n (ps ++ [x]) = entsFrom n ps ++ [{ key := .int .u64 x.k, val := pval x, born := n + ps.length }]
  | [], n => by simp [entsFrom]
  | y :: r, n => by
    simp only [List.cons_append, entsFrom, entsFrom_snoc x r (n + 1), List.length_cons]
    rw [show n + 1 + r.length = n + (r.length + 1) by omega]
/-- The page with a Base. -/
def pg (ps : List Pgd) (k : Int) : Option Pgd := ps.find? (fun y => y.k == k)
theorem find_none (k : Int) : ∀ (ps : List Pgd), pg ps k = none → ∀ n i, Instr.findNow (.int .u64) (.int .u64 k) (entsFrom n ps) i = some none
  | [], _, _, _ => rfl
  | y :: r, h, n, i => by
    unfold pg at h
    rw [List.find?_cons] at h
    split at h
    · cases h
    · rename_i hne
      have e : (k == y.k) = false := by simp only [beq_eq_false_iff_ne, ne_eq] at hne ⊢; exact fun h => hne h.symm
      have := find_none k r h (n + 1) (i + 1)
      simp [entsFrom, Instr.findNow, Instr.sameNow, e, this]
theorem find_some (k : Int) (x : Pgd) : ∀ (ps : List Pgd), pg ps k = some x → ∀ n i, ∃ j, Instr.findNow (.int .u64) (.int .u64 k) (entsFrom n ps) i = some (some (j, pval x))
  | [], h, _, _ => by cases h
  | y :: r, h, n, i => by
    unfold pg at h
    rw [List.find?_cons] at h
    split at h
    · rename_i he
      have e : k = y.k := by simpa using (eq_comm.1 (by simpa using he))
      cases h
      exact ⟨i, by simp [entsFrom, Instr.findNow, Instr.sameNow, e]⟩
    · rename_i hne
      have e : (k == y.k) = false := by simp only [beq_eq_false_iff_ne, ne_eq] at hne ⊢; exact fun h => hne h.symm
      obtain ⟨j, hj⟩ := find_some k x r h (n + 1) (i + 1)
      exact ⟨j, by simp [entsFrom, Instr.findNow, Instr.sameNow, e, hj]⟩
theorem pg_k {ps : List Pgd} {k : Int} {x : Pgd} (h : pg ps k = some x) : x.k = k ∧ x ∈ ps := ⟨by have := List.find?_some h; simpa using this, List.mem_of_find?_eq_some h⟩
/-- A memory: the cell that leads to its map, the map, each page's bytes. -/
structure Mm (W : World) (b r : Nat) (ps : List Pgd) (bt : Nat → Nat → Int) : Prop where
  cell : W.cell? ⟨b, 0, none⟩ = some (.map (some r))
  map : W.heap[r]? = some (.map (entsFrom 0 ps).toArray ps.length)
  data : ∀ x ∈ ps, ∀ j, j < 4096 → W.cell? ⟨x.g, j, none⟩ = some (.int .u8 (bt x.g j))
  small : ∀ g j, 0 ≤ bt g j ∧ bt g j < 256
  caps : ∀ x ∈ ps, 4096 ≤ x.c
theorem lt_of_cell {w : World} {r o : Nat} {x : Value} (h : w.cell? ⟨r, o, none⟩ = some x) : r < w.heap.size := by
  unfold World.cell? at h
  split at h
  · rename_i hh; exact (Array.getElem?_eq_some_iff.1 hh).1
  · cases h
theorem Mm.below {W W' : World} {b r : Nat} {ps : List Pgd} {bt : Nat → Nat → Int} (h : Mm W b r ps bt) (hb : Below W.heap.size W W') : Mm W' b r ps bt :=
  ⟨(hb.cell (p := ⟨b, 0, none⟩) (lt_of_cell h.cell)).trans h.cell, (hb.block r (lt_of_some h.map)).trans h.map, fun x hx j hj => (hb.cell (p := ⟨x.g, j, none⟩) (lt_of_cell (h.data x hx j hj))).trans (h.data x hx j hj), h.small, h.caps⟩
set_option maxRecDepth 20000 in
set_option maxHeartbeats 1000000 in
theorem page_hit (b r g c : Nat) (k p : Int) (es : Array MapEntry) (clock i : Nat) (W : World) (hc : W.cell? ⟨b, 0, none⟩ = some (.map (some r))) (hb : b < W.heap.size) (hr : W.heap[r]? = some (.map es clock)) (hf : Instr.findNow (.int .u64) (.int .u64 k) es.toList 0 = some (some (i, .agg #[.int .u64 k, .int .i64 p, .slice (some ⟨g, 0, none⟩) 4096 c]))) :
    Calls Tryd.prog 83 #[.pointer (some ⟨b, 0, none⟩), .int .u64 k] W fun e w' => e = .returned (.tuple #[.agg #[.int .u64 k, .int .i64 p, .slice (some ⟨g, 0, none⟩) 4096 c], .bool true]) ∧ Below W.heap.size W w' := by
  have HL : Hid (∀ W', W'.heap[r]? = some (.map es clock) → (Instr.lookup 82 (.map (some r)) (.int .u64 k) true).run Tryd.prog W' = .ok (.tuple #[.agg #[.int .u64 k, .int .i64 p, .slice (some ⟨g, 0, none⟩) 4096 c], .bool true]) W') := fun W' h => look42 r k es clock _ W' h hf
  have hl := HL.out (W.alloc (.cells #[.int .u64 0, .int .i64 0, .slice none 0 0] 51)) (heap_on hr _)
  clear hr hf
  go_enter Tryd.func83, Tryd.ntmps83
  go_wp2
  refine bodyPost_ret (v := .tuple #[.agg #[.int .u64 k, .int .i64 p, .slice (some ⟨g, 0, none⟩) 4096 c], .bool true]) (by simp [results, Tryd.results83, go_sem]) rfl ⟨rfl, ?_⟩
  exact ((Below.refl _ _).alloc (Nat.le_refl _) _).alloc (by simp) _
theorem page_some_of {b r : Nat} {ps : List Pgd} {k : Int} {x : Pgd} {W : World} (hc : W.cell? ⟨b, 0, none⟩ = some (.map (some r))) (hr : W.heap[r]? = some (.map (entsFrom 0 ps).toArray ps.length)) (hx : pg ps k = some x) :
    Calls Tryd.prog 83 #[.pointer (some ⟨b, 0, none⟩), .int .u64 k] W fun e w' => e = .returned (.tuple #[.agg #[.int .u64 k, .int .i64 x.p, .slice (some ⟨x.g, 0, none⟩) 4096 x.c], .bool true]) ∧ Below W.heap.size W w' := by
  obtain ⟨j, hj⟩ := find_some k x ps hx 0 0
  have e := (pg_k hx).1
  refine page_hit b r x.g x.c k x.p _ _ j W hc (lt_of_cell hc) hr ?_
  rw [List.toList_toArray, hj, pval, e]
theorem page_some {b r : Nat} {ps : List Pgd} {bt : Nat → Nat → Int} {k : Int} {x : Pgd} {W : World} (hM : Mm W b r ps bt) (hx : pg ps k = some x) :
    Calls Tryd.prog 83 #[.pointer (some ⟨b, 0, none⟩), .int .u64 k] W fun e w' => e = .returned (.tuple #[.agg #[.int .u64 k, .int .i64 x.p, .slice (some ⟨x.g, 0, none⟩) 4096 x.c], .bool true]) ∧ Below W.heap.size W w' :=
  page_some_of hM.cell hM.map hx
theorem page_none {b r : Nat} {ps : List Pgd} {bt : Nat → Nat → Int} {k : Int} {W : World} (hM : Mm W b r ps bt) (hx : pg ps k = none) :
    Calls Tryd.prog 83 #[.pointer (some ⟨b, 0, none⟩), .int .u64 k] W fun e w' => e = .returned (.tuple #[.agg #[.int .u64 0, .int .i64 0, .slice none 0 0], .bool false]) ∧ Below W.heap.size W w' :=
  page25_miss b r k _ _ W hM.cell (lt_of_cell hM.cell) hM.map (by rw [List.toList_toArray]; exact find_none k ps hx 0 0)
def bs (a : Int) : Int := a - a % 4096
theorem bs_facts {a : Int} (h : 0 ≤ a) : 0 ≤ bs a ∧ bs a ≤ a ∧ a < bs a + 4096 ∧ bs a % 4096 = 0 := by unfold bs; omega
/-- May a page not be used so? -/
def badP (x : Pgd) (perm : Int) : Bool := bits .and .i64 x.p perm != perm
def e1 (x : Pgd) (perm : Int) : Int := if badP x perm then 21 else 0
def e2 (x y : Pgd) (perm : Int) : Int := if badP y perm then 21 else e1 x perm
theorem e1_bad {x : Pgd} {perm : Int} (h : (bits .and .i64 x.p perm != perm) = true) : .int .i64 21 = Value.int .i64 (e1 x perm) := by unfold e1 badP; rw [if_pos h]
theorem e1_ok {x : Pgd} {perm : Int} (h : (bits .and .i64 x.p perm != perm) = false) : .int .i64 0 = Value.int .i64 (e1 x perm) := by unfold e1 badP; rw [h]; rfl
theorem e2_bad {x y : Pgd} {perm : Int} (h : (bits .and .i64 y.p perm != perm) = true) : .int .i64 21 = Value.int .i64 (e2 x y perm) := by unfold e2 badP; rw [if_pos h]
theorem e2_ok {x y : Pgd} {perm : Int} (h : (bits .and .i64 y.p perm != perm) = false) : .int .i64 (e1 x perm) = Value.int .i64 (e2 x y perm) := by unfold e2 badP; rw [h]; rfl
/-- What forbids that n bytes are used (n is 1 to 8). -/
def useE (ps : List Pgd) (a n perm : Int) : Int :=
  match pg ps (bs a) with
  | none => 20
  | some x => if a + n ≤ bs a + 4096 then e1 x perm else
    match pg ps (bs a + 4096) with
    | none => 20
    | some y => e2 x y perm
theorem base_at (a : Int) (a0 : 0 ≤ a) (a1 : a < 281474976710656) (W : World) : Calls Tryd.prog 82 #[.int .u64 a] W fun e w' => e = .returned (.int .u64 (bs a)) ∧ w' = W := base36 a a0 (by omega) W
theorem base_next (q : Int) (a0 : 0 ≤ q) (a1 : q < 281474976710656) (h : q % 4096 = 0) (W : World) : Calls Tryd.prog 82 #[.int .u64 (q + 4096)] W fun e w' => e = .returned (.int .u64 (q + 4096)) ∧ w' = W := by
  have t := base36 (q + 4096) (by omega) (by omega) W
  rw [show q + 4096 - (q + 4096) % 4096 = q + 4096 by omega] at t
  exact t
set_option maxRecDepth 20000 in
set_option maxHeartbeats 1000000 in
theorem usable_any (b r : Nat) (ps : List Pgd) (bt : Nat → Nat → Int) (a n perm : Int) (w : World) (h : Mm w b r ps bt) (a0 : 0 ≤ a) (n0 : 1 ≤ n) (n1 : n ≤ 8) (h1 : a + n ≤ 281474976710656) : Calls Tryd.prog 69 #[.pointer (some ⟨b, 0, none⟩), .int .u64 a, .int .i64 n, .int .i64 perm] w fun e w' => e = .returned (.int .i64 (useE ps a n perm)) ∧ Below w.heap.size w w' := by
  have HH : Hid (Mm w b r ps bt) := h
  have HX : Hid (∀ W, Calls Tryd.prog 81 #[.int .u64 a, .int .u64 n] W fun e w' => e = .returned (.bool false) ∧ w' = W) := fun W => by have t := beyond12 a n (by omega) (by omega) (by omega) (by omega) W; rw [decide_eq_false (by omega)] at t; exact t
  obtain ⟨f0, f1, f2, f3⟩ := bs_facts a0
  have HU : Hid (useE ps a n perm = match pg ps (bs a) with | none => 20 | some x => if a + n ≤ bs a + 4096 then e1 x perm else match pg ps (bs a + 4096) with | none => 20 | some y => e2 x y perm) := rfl
  have HA : Hid (∀ W, Calls Tryd.prog 82 #[.int .u64 a] W fun e w' => e = .returned (.int .u64 (bs a)) ∧ w' = W) := base_at a a0 (by omega)
  have HN : Hid (∀ W, Calls Tryd.prog 82 #[.int .u64 (bs a + 4096)] W fun e w' => e = .returned (.int .u64 (bs a + 4096)) ∧ w' = W) := base_next (bs a) f0 (by omega) f3
  generalize bs a = q at *
  generalize useE ps a n perm = res at *
  clear h
  go_enter Tryd.func69, Tryd.ntmps69
  go_wp2_with fail
  refine (HX.out _).mono ?_
  rintro e w1 ⟨rfl, e1⟩
  subst e1
  go_wp2_with fail
  go_loopw [9, 10] (fun y x wr => Below w1.heap.size w1 wr ∧ ((y = .int .i64 0 ∧ x = .int .u64 a) ∨ (∃ x1, pg ps q = some x1 ∧ y = .int .i64 (YtnmpbihpoefeoaaDoor.e1 x1 perm) ∧ x = .int .u64 (q + 4096)) ∨ (∃ x1 x2, pg ps q = some x1 ∧ pg ps (q + 4096) = some x2 ∧ q + 4096 < a + n ∧ y = .int .i64 (e2 x1 x2 perm) ∧ x = .int .u64 (q + 8192)))) (fun _ x _ => (q + 8192 - intOf x).toNat)
  case atStart => exact ⟨Below.refl _ _, .inl ⟨rfl, rfl⟩⟩
  case round =>
    obtain ⟨hbl, hx⟩ := hrel
    have HB : Hid (Below w1.heap.size w1 wr) := hbl
    have hs := hbl.size
    clear hbl
    rcases hx with ⟨rfl, rfl⟩ | ⟨x1, hp1, rfl, rfl⟩ | ⟨x1, x2, hp1, hp2, hlt, rfl, rfl⟩
    · go_wp2_with fail
      refine (HA.out _).mono ?_
      rintro e w2 ⟨rfl, e2⟩
      subst e2
      rcases hp : pg ps q with _ | x1
      · go_wp2_with fail
        refine (page_none (HH.out.below HB.out) hp).mono ?_
        rintro e w3 ⟨rfl, hb3⟩
        have HB3 : Hid (Below w1.heap.size w1 w3) := HB.out.trans (hb3.mono HB.out.size)
        clear hb3
        go_wp2
        go_ret
        exact ⟨ret_int (by rw [HU.out, hp]), HB3.out.alloc HB3.out.size _⟩
      · have HP : Hid (pg ps q = some x1) := hp
        clear hp
        go_wp2_with fail
        refine (page_some (HH.out.below HB.out) HP.out).mono ?_
        rintro e w3 ⟨rfl, hb3⟩
        have HB3 : Hid (Below w1.heap.size w1 w3) := HB.out.trans (hb3.mono HB.out.size)
        clear hb3
        go_wp2_with ((go_at_call 82; refine (HA.out _).mono ?_; rintro e w4 ⟨rfl, e4⟩; subst e4))
        all_goals
          go_roundw
          case rel => exact ⟨HB3.out.alloc HB3.out.size _, .inr (.inl ⟨x1, HP.out, by first | exact e1_bad ‹_› | exact e1_ok ‹_›, rfl⟩)⟩
          case measure => simp [intOf]; omega
    · have HP1 : Hid (pg ps q = some x1) := hp1
      clear hp1
      by_cases hlt : q + 4096 < a + n
      · go_wp2_with fail
        refine (HN.out _).mono ?_
        rintro e w2 ⟨rfl, e2⟩
        subst e2
        rcases hp : pg ps (q + 4096) with _ | x2
        · go_wp2_with fail
          refine (page_none (HH.out.below HB.out) hp).mono ?_
          rintro e w3 ⟨rfl, hb3⟩
          have HB3 : Hid (Below w1.heap.size w1 w3) := HB.out.trans (hb3.mono HB.out.size)
          clear hb3
          go_wp2
          go_ret
          exact ⟨ret_int (by rw [HU.out, HP1.out, hp]; simp only []; rw [if_neg (by omega)]), HB3.out.alloc HB3.out.size _⟩
        · have HP : Hid (pg ps (q + 4096) = some x2) := hp
          clear hp
          go_wp2_with fail
          refine (page_some (HH.out.below HB.out) HP.out).mono ?_
          rintro e w3 ⟨rfl, hb3⟩
          have HB3 : Hid (Below w1.heap.size w1 w3) := HB.out.trans (hb3.mono HB.out.size)
          clear hb3
          go_wp2_with ((go_at_call 82; refine (HN.out _).mono ?_; rintro e w4 ⟨rfl, e4⟩; subst e4))
          all_goals
            go_roundw
            case rel => exact ⟨HB3.out.alloc HB3.out.size _, .inr (.inr ⟨x1, x2, HP1.out, HP.out, hlt, by first | exact e2_bad ‹_› | exact e2_ok ‹_›, by congr 1; omega⟩)⟩
            case measure => simp [intOf]; omega
      · go_wp2
        go_ret
        exact ⟨ret_int (by rw [HU.out, HP1.out]; simp only []; rw [if_pos (by omega)]), HB.out⟩
    · have HP1 : Hid (pg ps q = some x1) := hp1
      have HP2 : Hid (pg ps (q + 4096) = some x2) := hp2
      clear hp1 hp2
      go_wp2
      go_ret
      exact ⟨ret_int (by rw [HU.out, HP1.out]; simp only []; rw [if_neg (by omega), HP2.out]), HB.out⟩
end Go.Proofs.YtnmpbihpoefeoaaDoor
