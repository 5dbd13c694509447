/- A memory of whatever pages: what its map holds, and what a look-up finds. -/
import Derived.Test.YtndbkkldfinggabM9
namespace Go.Proofs.Ytndbkkldfinggab
open Go.RowKit Go.Shelf
/-- A page that a memory keeps: its Base, its Perm, the block of its bytes, and how many it could have. -/
structure Pgd where
  k : Int
  p : Int
  g : Nat
  c : Nat
def pval (x : Pgd) : Value := .agg #[.int .u64 x.k, .int .i64 x.p, .slice (some ⟨x.g, 0, none⟩) 4096 x.c]
def entsFrom : Nat → List Pgd → List MapEntry
  | _, [] => []
  | n, x :: r => { key := .int .u64 x.k, val := pval x, born := n } :: entsFrom (n + 1) r
theorem entsFrom_snoc (x : Pgd) : ∀ (ps : List Pgd) (n : Nat), entsFrom n (ps ++ [x]) = entsFrom n ps ++ [{ key := .int .u64 x.k, val := pval x, born := n + ps.length }]
  | [], n => by simp [entsFrom]
  | y :: r, n => by
    simp only [List.cons_append, entsFrom, entsFrom_snoc x r (n + 1), List.length_cons]
    rw [show n + 1 + r.length = n + (r.length + 1) by omega]
/-- The page with a Base. -/
def pg (ps : List Pgd) (k : Int) : Option Pgd := ps.find? (fun y => y.k == k)
theorem find_none (k : Int) : ∀ (ps : List Pgd), pg ps k = none → ∀ n i, Instr.findNow (.int .u64) (.int .u64 k) (entsFrom n ps) i = some none
  | [], _, _, _ => rfl
  | y :: r, h, n, i => by
    unfold pg at h
    rw [List.find?_cons] at h
    split at h
    · cases h
    · rename_i hne
      have e : (k == y.k) = false := by simp only [beq_eq_false_iff_ne, ne_eq] at hne ⊢; exact fun h => hne h.symm
      have := find_none k r h (n + 1) (i + 1)
      simp [entsFrom, Instr.findNow, Instr.sameNow, e, this]
theorem find_some (k : Int) (x : Pgd) : ∀ (ps : List Pgd), pg ps k = some x → ∀ n i, ∃ j, Instr.findNow (.int .u64) (.int .u64 k) (entsFrom n ps) i = some (some (j, pval x))
  | [], h, _, _ => by cases h
  | y :: r, h, n, i => by
    unfold pg at h
    rw [List.find?_cons] at h
    split at h
    · rename_i he
      have e : k = y.k := by simpa using (eq_comm.1 (by simpa using he))
      cases h
      exact ⟨i, by simp [entsFrom, Instr.findNow, Instr.sameNow, e]⟩
    · rename_i hne
      have e : (k == y.k) = false := by simp only [beq_eq_false_iff_ne, ne_eq] at hne ⊢; exact fun h => hne h.symm
      obtain ⟨j, hj⟩ := find_some k x r h (n + 1) (i + 1)
      exact ⟨j, by simp [entsFrom, Instr.findNow, Instr.sameNow, e, hj]⟩
theorem pg_k {ps : List Pgd} {k : Int} {x : Pgd} (h : pg ps k = some x) : x.k = k ∧ x ∈ ps := ⟨by have := List.find?_some h; simpa using this, List.mem_of_find?_eq_some h⟩
/-- A memory: the cell that leads to its map, the map, each page's bytes. -/
structure Mm (W : World) (b r : Nat) (ps : List Pgd) (bt : Nat → Nat → Int) : Prop where
  cell : W.cell? ⟨b, 0, none⟩ = some (.map (some r))
  map : W.heap[r]? = some (.map (entsFrom 0 ps).toArray ps.length)
  data : ∀ x ∈ ps, ∀ j, j < 4096 → W.cell? ⟨x.g, j, none⟩ = some (.int .u8 (bt x.g j))
  small : ∀ g j, 0 ≤ bt g j ∧ bt g j < 256
  caps : ∀ x ∈ ps, 4096 ≤ x.c
theorem lt_of_cell {w : World} {r o : Nat} {x : Value} (h : w.cell? ⟨r, o, none⟩ = some x) : r < w.heap.size := by
  unfold World.cell? at h
  split at h
  · rename_i hh; exact (Array.getElem?_eq_some_iff.1 hh).1
  · cases h
theorem Mm.below {W W' : World} {b r : Nat} {ps : List Pgd} {bt : Nat → Nat → Int} (h : Mm W b r ps bt) (hb : Below W.heap.size W W') : Mm W' b r ps bt :=
  ⟨(hb.cell (p := ⟨b, 0, none⟩) (lt_of_cell h.cell)).trans h.cell, (hb.block r (lt_of_some h.map)).trans h.map, fun x hx j hj => (hb.cell (p := ⟨x.g, j, none⟩) (lt_of_cell (h.data x hx j hj))).trans (h.data x hx j hj), h.small, h.caps⟩
set_option maxRecDepth 20000 in
set_option maxHeartbeats 1000000 in
theorem page_hit (b r g c : Nat) (k p : Int) (es : Array MapEntry) (clock i : Nat) (W : World) (hc : W.cell? ⟨b, 0, none⟩ = some (.map (some r))) (hb : b < W.heap.size) (hr : W.heap[r]? = some (.map es clock)) (hf : Instr.findNow (.int .u64) (.int .u64 k) es.toList 0 = some (some (i, .agg #[.int .u64 k, .int .i64 p, .slice (some ⟨g, 0, none⟩) 4096 c]))) :
    Calls Try.prog 40 #[.pointer (some ⟨b, 0, none⟩), .int .u64 k] W fun e w' => e = .returned (.tuple #[.agg #[.int .u64 k, .int .i64 p, .slice (some ⟨g, 0, none⟩) 4096 c], .bool true]) ∧ Below W.heap.size W w' := by
  have HL : Hid (∀ W', W'.heap[r]? = some (.map es clock) → (Instr.lookup 65 (.map (some r)) (.int .u64 k) true).run Try.prog W' = .ok (.tuple #[.agg #[.int .u64 k, .int .i64 p, .slice (some ⟨g, 0, none⟩) 4096 c], .bool true]) W') := fun W' h => look42 r k es clock _ W' h hf
  have hl := HL.out (W.alloc (.cells #[.int .u64 0, .int .i64 0, .slice none 0 0] 62)) (heap_on hr _)
  clear hr hf
  go_enter Try.func40, Try.ntmps40
  go_wp2
  refine bodyPost_ret (v := .tuple #[.agg #[.int .u64 k, .int .i64 p, .slice (some ⟨g, 0, none⟩) 4096 c], .bool true]) (by simp [results, Try.results40, go_sem]) rfl ⟨rfl, ?_⟩
  exact ((Below.refl _ _).alloc (Nat.le_refl _) _).alloc (by simp) _
theorem page_some_of {b r : Nat} {ps : List Pgd} {k : Int} {x : Pgd} {W : World} (hc : W.cell? ⟨b, 0, none⟩ = some (.map (some r))) (hr : W.heap[r]? = some (.map (entsFrom 0 ps).toArray ps.length)) (hx : pg ps k = some x) :
    Calls Try.prog 40 #[.pointer (some ⟨b, 0, none⟩), .int .u64 k] W fun e w' => e = .returned (.tuple #[.agg #[.int .u64 k, .int .i64 x.p, .slice (some ⟨x.g, 0, none⟩) 4096 x.c], .bool true]) ∧ Below W.heap.size W w' := by
  obtain ⟨j, hj⟩ := find_some k x ps hx 0 0
  have e := (pg_k hx).1
  refine page_hit b r x.g x.c k x.p _ _ j W hc (lt_of_cell hc) hr ?_
  rw [List.toList_toArray, hj, pval, e]
theorem page_some {b r : Nat} {ps : List Pgd} {bt : Nat → Nat → Int} {k : Int} {x : Pgd} {W : World} (hM : Mm W b r ps bt) (hx : pg ps k = some x) :
    Calls Try.prog 40 #[.pointer (some ⟨b, 0, none⟩), .int .u64 k] W fun e w' => e = .returned (.tuple #[.agg #[.int .u64 k, .int .i64 x.p, .slice (some ⟨x.g, 0, none⟩) 4096 x.c], .bool true]) ∧ Below W.heap.size W w' :=
  page_some_of hM.cell hM.map hx
theorem page_none {b r : Nat} {ps : List Pgd} {bt : Nat → Nat → Int} {k : Int} {W : World} (hM : Mm W b r ps bt) (hx : pg ps k = none) :
    Calls Try.prog 40 #[.pointer (some ⟨b, 0, none⟩), .int .u64 k] W fun e w' => e = .returned (.tuple #[.agg #[.int .u64 0, .int .i64 0, .slice none 0 0], .bool false]) ∧ Below W.heap.size W w' :=
  page25_miss b r k _ _ W hM.cell (lt_of_cell hM.cell) hM.map (by rw [List.toList_toArray]; exact find_none k ps hx 0 0)
end Go.Proofs.Ytndbkkldfinggab
