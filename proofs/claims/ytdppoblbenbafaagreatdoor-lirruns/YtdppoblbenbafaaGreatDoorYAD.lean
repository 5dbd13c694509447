/- The little program's function is right. The little program is right. Blocks of cells, as they are. A run's little functions. A part of memory is found, and ends. A number is printed. Ended parts are let go. A run of whatever program: what it has in memory. A frame begins. A part of memory begins. A part of memory begins, in whatever run. A run of the document's: what it has in memory; it stops; a part of its memory begins. -/
import Derived.Test.YtdppoblbenbafaaGreatDoorYAB
import Derived.Test.YtdppoblbenbafaaGreatDoorO1
import Derived.Deep.AppendLies
import Derived.Deep.RegionLawGrows
namespace Go.Proofs.YtdppoblbenbafaaGreatDoor
section
open Go.RowKit Go.Shelf
end
section
open Go.RowKit Go.Shelf
theorem und59 : Tryz.prog.underlying 58 = some (.map 9 3) := by kernel_rfl
theorem look59 (r : Nat) (k : ByteArray) (es : Array MapEntry) (c : Nat) (W : World) (hr : W.heap[r]? = some (.map es c)) (hf : Instr.findNow .string (.string k) es.toList 0 = some none) : (Instr.lookup 58 (.map (some r)) (.string k) true).run Tryz.prog W = .ok (.tuple #[.int .i64 0, .bool false]) W := by
  unfold Instr.lookup
  simp [Sem.run_bind, run_underlying und59, run_getObj_map W r es c hr, check9, Go.MapKept.run_findKey Tryz.underlying9 hf]
/-- A world in which one block is another. -/
def swp (W : World) (r : Nat) (o : Obj) : World := { W with heap := W.heap.setIfInBounds r o }
theorem upd59 (r : Nat) (k : ByteArray) (v : Value) (es : Array MapEntry) (c : Nat) (W : World) (hr : W.heap[r]? = some (.map es c)) (hf : Instr.findNow .string (.string k) es.toList 0 = some none) : (Instr.mapUpdate 58 (.map (some r)) (.string k) v).run Tryz.prog W = .ok () (swp W r (.map (es.push { key := .string k, val := v, born := c }) (c + 1))) := by
  unfold Instr.mapUpdate
  simp [Sem.run_bind, run_underlying und59, run_getObj_map W r es c hr, check9, Go.MapKept.run_findKey Tryz.underlying9 hf, Go.MapKept.run_setObj_map _ hr, swp]
theorem swp_size (W : World) (r : Nat) (o : Obj) : (swp W r o).heap.size = W.heap.size := by simp [swp]
theorem swp_heap (W : World) (r : Nat) (o : Obj) (b : Nat) (h : b ≠ r) : (swp W r o).heap[b]? = W.heap[b]? := by
  show (W.heap.setIfInBounds r o)[b]? = _
  rw [Array.getElem?_setIfInBounds_ne (Ne.symm h)]
theorem swp_cell (W : World) (r : Nat) (o : Obj) (b off : Nat) (h : b ≠ r) : (swp W r o).cell? ⟨b, off, none⟩ = W.cell? ⟨b, off, none⟩ := by
  unfold World.cell?
  simp only [swp_heap W r o b h]
theorem swp_below {B : Nat} {w W : World} (h : Below B w W) (r : Nat) (o : Obj) (hr : B ≤ r) : Below B w (swp W r o) := by
  obtain ⟨h1, h2, h3, h4, h5⟩ := h
  exact ⟨h1, h2, h3, by rw [swp_size]; exact h4, fun i hi => by rw [swp_heap W r o i (by omega)]; exact h5 i hi⟩
/-- The little program lies in memory: the function at p, its block at y, its instructions at x, the call's arguments at z. -/
structure Pr (w : World) (p y x z : Nat) : Prop where
  f0 : w.cell? ⟨p, 0, none⟩ = some (.string ⟨#[109, 97, 105, 110]⟩)
  f1 : w.cell? ⟨p, 1, none⟩ = some (.int .i64 0)
  f2 : w.cell? ⟨p, 2, none⟩ = some (.int .i64 1)
  f3 : w.cell? ⟨p, 3, none⟩ = some (.int .i64 0)
  f4 : w.cell? ⟨p, 4, none⟩ = some (.slice (some ⟨y, 0, none⟩) 1 1)
  by_ : w.cell? ⟨y, 0, none⟩ = some (.slice (some ⟨x, 0, none⟩) 3 3)
  ib : Ib w x z
  lp : p < w.heap.size
  ly : y < w.heap.size
end
section
open Go.RowKit Go.Shelf
theorem cells_set {W : World} {m : Nat} {cs : Array Value} {t : TypeId} (o : Nat) (v : Value) (h : W.heap[m]? = some (Obj.cells cs t (0, 0))) : (W.setCell ⟨m, o, none⟩ v).heap[m]? = some (Obj.cells (cs.setIfInBounds o v) t (0, 0)) := by
  obtain ⟨hlt, hk⟩ := Array.getElem?_eq_some_iff.1 h
  show (W.heap.modify m _)[m]? = _
  rw [Array.getElem?_eq_getElem (by rw [Array.size_modify]; exact hlt), Array.getElem_modify_self, hk]
  rfl
theorem grown_set (W : World) (g o : Nat) (v : Value) : W.grownBy (W.setCell ⟨g, o, none⟩ v) (some g) :=
  ⟨rfl, rfl, rfl, by simp, fun k _ hne => Below.heap_setCell _ _ _ _ (fun e => hne (by rw [e]))⟩
/-- Block b begins with these cells. -/
def Cl (W : World) (b : Nat) (f : List Value) : Prop := ∃ (cs : Array Value) (t : TypeId), W.heap[b]? = some (Obj.cells cs t (0, 0)) ∧ ∀ (j : Nat) (v : Value), f[j]? = some v → cs[j]? = some v
theorem Cl.lt {W : World} {b : Nat} {f : List Value} (h : Cl W b f) : b < W.heap.size := by
  obtain ⟨cs, t, h, _⟩ := h
  exact (Array.getElem?_eq_some_iff.1 h).1
theorem Cl.cell {W : World} {b : Nat} {f : List Value} (h : Cl W b f) {j : Nat} {v : Value} (hj : f[j]? = some v) : W.cell? ⟨b, j, none⟩ = some v := by
  obtain ⟨cs, t, h, hc⟩ := h
  simp only [World.cell?, h]
  simpa using hc j v hj
theorem Cl.fz {W : World} {b : Nat} {f : List Value} (h : Cl W b f) (j : Nat) : W.frozen? ⟨b, j, none⟩ = false := by
  obtain ⟨cs, t, h, hc⟩ := h
  simp only [World.frozen?, h]
  simp
theorem Cl.keep {W W' : World} {b : Nat} {f : List Value} (h : Cl W b f) (e : W'.heap[b]? = W.heap[b]?) : Cl W' b f := by
  obtain ⟨cs, t, h, hc⟩ := h
  exact ⟨cs, t, e.trans h, hc⟩
theorem Cl.below {W W' : World} {b : Nat} {f : List Value} (h : Cl W b f) (hb : Below W.heap.size W W') : Cl W' b f := h.keep (hb.block b h.lt)
theorem Cl.alloc {W : World} {b : Nat} {f : List Value} (h : Cl W b f) (o : Obj) : Cl (W.alloc o) b f := h.below ((Below.refl _ _).alloc (Nat.le_refl _) o)
theorem Cl.new (W : World) (f : List Value) (t : TypeId) : Cl (W.alloc (.cells f.toArray t)) W.heap.size f := by
  refine ⟨f.toArray, t, ?_, fun j v h => by simpa using h⟩
  exact (Go.MapKept.heap_alloc W _).1
end
section
open Go.RowKit Go.Shelf
set_option maxHeartbeats 1000000
theorem dcell {w : World} {b o : Nat} {v : Value} (h : w.cell? ⟨b, o, none⟩ = some v) : ∀ n, (w.drewN n).cell? ⟨b, o, none⟩ = some v := fun _ => h
theorem end36 (R : Nat) (a b : Int) (f : List Value) (w : World) (h : Cl w R f) (hf : f.length = 13) : Calls Tryz.prog 71 #[.pointer (some ⟨R, 0, none⟩), .int .i64 a, .int .i64 b] w fun e w' => e = .returned (.tuple #[]) ∧ w' = (w.setCell ⟨R, 9, none⟩ (.int .i64 a)).setCell ⟨R, 10, none⟩ (.int .i64 b) := by
  have c9 := h.cell (j := 9) (List.getElem?_eq_getElem (by omega))
  have c10 := h.cell (j := 10) (List.getElem?_eq_getElem (by omega))
  have z9 := h.fz 9
  have z10 := h.fz 10
  generalize f[9] = v9 at *
  generalize f[10] = v10 at *
  clear h
  go_enter Tryz.func71, Tryz.ntmps71
  go_wp2
  go_returns
  exact ⟨rfl, rfl⟩
theorem answer_none (R : Nat) (v : Int) (w : World) : Calls Tryz.prog 132 #[.pointer (some ⟨R, 0, none⟩), .int .i64 (-1), .int .i64 v] w fun e w' => e = .returned (.tuple #[]) ∧ w' = w := by
  go_enter Tryz.func132, Tryz.ntmps132
  go_wp2
  go_returns
  exact ⟨rfl, rfl⟩
end
section
open Go.RowKit Go.Shelf
end
section
open Go.RowKit Go.Shelf
theorem info5 : (Tryz.prog.info? 5).map (fun i => (i.zero, i.size, i.bytes)) = some (some (.int .u8 0), 1, 1) := by kernel_rfl
theorem info5' : ∃ i, Tryz.prog.info? 5 = some i ∧ i.zero = some (.int .u8 0) ∧ i.size = 1 ∧ i.bytes = 1 := by
  have h := info5
  cases hi : Tryz.prog.info? 5 with
  | none => rw [hi] at h; cases h
  | some i => rw [hi] at h; simp at h; exact ⟨i, rfl, h⟩
theorem new_one (W : World) (v : Value) (t : TypeId) : (W.alloc (.cells #[v] t)).cell? ((⟨W.heap.size, 0, none⟩ : Addr).add 0) = some v := by
  have h := (Cl.new W [v] t).cell (j := 0) rfl
  exact h
theorem below_grown {B : Nat} {w W W' : World} {r : Option Nat} (hB : B ≤ w.heap.size) (h : Below B w W) (g : W.grownBy W' r) (hr : ∀ k, r = some k → B ≤ k) : Below B w W' :=
  ⟨g.os.trans h.os, g.tape.trans h.tape, g.output.trans h.output, Nat.le_trans h.size g.size, fun i hi => by
    by_cases hs : i < W.heap.size
    · rw [g.block i hs (fun e => by have := hr i e.symm; omega)]
      exact h.block i hi
    · exact absurd (Nat.lt_of_lt_of_le hi (Nat.le_trans hB h.size)) hs⟩
theorem own_base {w : World} {base : Nat} {e : TypeId} {size : Nat} {v : Value} {n : Nat} {xs : List Value} (h : w.ownsRow base e size v n xs) {g : Nat} (hg : v.ownBlock = some g) : base ≤ g := by
  obtain ⟨h1, h2⟩ := h
  rcases h2 with h | ⟨g', cap, cur, e1, e2, e3, r⟩
  · rw [h.1] at hg
    cases hg
  · rw [e1] at hg
    cases hg
    exact e2
end
section
open Go.RowKit Go.Shelf
/-- All blocks stay but those of S. -/
structure Onl (S : Nat → Prop) (w W : World) : Prop where
  os : W.os = w.os
  tape : W.tape = w.tape
  output : W.output = w.output
  size : w.heap.size ≤ W.heap.size
  block : ∀ k, k < w.heap.size → ¬ S k → W.heap[k]? = w.heap[k]?
theorem Onl.of_below {S : Nat → Prop} {w W : World} (h : Below w.heap.size w W) : Onl S w W := ⟨h.os, h.tape, h.output, h.size, fun k hk _ => h.block k hk⟩
theorem Onl.trans {S : Nat → Prop} {w W W' : World} (h : Onl S w W) (k : Onl S W W') : Onl S w W' := ⟨k.os.trans h.os, k.tape.trans h.tape, k.output.trans h.output, Nat.le_trans h.size k.size, fun i hi hx => (k.block i (Nat.lt_of_lt_of_le hi h.size) hx).trans (h.block i hi hx)⟩
theorem Onl.mono {S T : Nat → Prop} {w W : World} (h : Onl S w W) (k : ∀ i, S i → T i) : Onl T w W := ⟨h.os, h.tape, h.output, h.size, fun i hi hx => h.block i hi (fun s => hx (k i s))⟩
theorem Onl.set {S : Nat → Prop} {w W : World} (h : Onl S w W) {b o : Nat} {v : Value} (hb : S b) : Onl S w (W.setCell ⟨b, o, none⟩ v) :=
  h.trans (by have hg := grown_set W b o v; exact ⟨hg.os, hg.tape, hg.output, hg.size, fun k hk hx => hg.block k hk (fun e => hx (by cases e; exact hb))⟩)
theorem Onl.alloc {S : Nat → Prop} {w W : World} (h : Onl S w W) (o : Obj) : Onl S w (W.alloc o) := h.trans (Onl.of_below ((Below.refl _ W).alloc (Nat.le_refl _) o))
theorem Onl.drewN {S : Nat → Prop} {w W : World} (h : Onl S w W) (n : Nat) : Onl S w (W.drewN n) := h.trans (Onl.of_below (below_drewN (Below.refl _ _) n))
theorem Onl.below {S : Nat → Prop} {B : Nat} {w W W' : World} (hB : B ≤ w.heap.size) (h : Below B w W) (o : Onl S W W') (hs : ∀ b, S b → B ≤ b) : Below B w W' :=
  ⟨o.os.trans h.os, o.tape.trans h.tape, o.output.trans h.output, Nat.le_trans h.size o.size, fun i hi => (o.block i (Nat.lt_of_lt_of_le (Nat.lt_of_lt_of_le hi hB) h.size) (fun s => by have := hs i s; omega)).trans (h.block i hi)⟩
end
section
open Go.RowKit Go.Shelf
/-- Block b is of type t, has just these cells, and none is frozen. -/
def Bk (W : World) (b : Nat) (t : TypeId) (cs : List Value) : Prop := W.heap[b]? = some (Obj.cells cs.toArray t (0, 0))
theorem Bk.cl {W : World} {b : Nat} {t : TypeId} {cs : List Value} (h : Bk W b t cs) : Cl W b cs := ⟨_, t, h, fun j v hj => by simpa using hj⟩
theorem Bk.lt {W : World} {b : Nat} {t : TypeId} {cs : List Value} (h : Bk W b t cs) : b < W.heap.size := h.cl.lt
theorem Bk.cell {W : World} {b : Nat} {t : TypeId} {cs : List Value} (h : Bk W b t cs) {j : Nat} {v : Value} (hj : cs[j]? = some v) : W.cell? ⟨b, j, none⟩ = some v := h.cl.cell hj
theorem Bk.fz {W : World} {b : Nat} {t : TypeId} {cs : List Value} (h : Bk W b t cs) (j : Nat) : W.frozen? ⟨b, j, none⟩ = false := h.cl.fz j
theorem Bk.keep {W W' : World} {b : Nat} {t : TypeId} {cs : List Value} (h : Bk W b t cs) (e : W'.heap[b]? = W.heap[b]?) : Bk W' b t cs := e.trans h
theorem Bk.below {W W' : World} {b : Nat} {t : TypeId} {cs : List Value} (h : Bk W b t cs) (hb : Below W.heap.size W W') : Bk W' b t cs := h.keep (hb.block b h.lt)
theorem Bk.drewN {W : World} {b : Nat} {t : TypeId} {cs : List Value} (h : Bk W b t cs) (n : Nat) : Bk (W.drewN n) b t cs := h.below (below_drewN (Below.refl _ _) n)
theorem Bk.drew {W : World} {b : Nat} {t : TypeId} {cs : List Value} (h : Bk W b t cs) : Bk W.drew b t cs := h.below (Below.refl _ _).drew
theorem Bk.alloc {W : World} {b : Nat} {t : TypeId} {cs : List Value} (h : Bk W b t cs) (o : Obj) : Bk (W.alloc o) b t cs := h.below ((Below.refl _ _).alloc (Nat.le_refl _) o)
theorem Bk.new (W : World) (cs : List Value) (t : TypeId) : Bk (W.alloc (.cells cs.toArray t)) W.heap.size t cs := (Go.MapKept.heap_alloc W _).1
theorem Bk.onl {S : Nat → Prop} {W W' : World} {b : Nat} {t : TypeId} {cs : List Value} (h : Bk W b t cs) (o : Onl S W W') (hs : ¬ S b) : Bk W' b t cs := h.keep (o.block b h.lt hs)
theorem Bk.set {W : World} {b : Nat} {t : TypeId} {cs : List Value} (h : Bk W b t cs) (o : Nat) (v : Value) : Bk (W.setCell ⟨b, o, none⟩ v) b t (cs.set o v) := by
  unfold Bk at *
  rw [cells_set o v h]
  simp
theorem Bk.other {W : World} {b g o : Nat} {t : TypeId} {cs : List Value} {v : Value} (h : Bk W b t cs) (hn : b ≠ g) : Bk (W.setCell ⟨g, o, none⟩ v) b t cs := h.keep ((grown_set W g o v).block b h.lt (fun e => hn (by cases e; rfl)))
theorem Bk.ne {W : World} {b b' : Nat} {t t' : TypeId} {cs cs' : List Value} (h : Bk W b t cs) (h' : Bk W b' t' cs') (ht : t ≠ t') : b ≠ b' := by
  intro e
  subst e
  unfold Bk at *
  rw [h] at h'
  cases h'
  exact ht rfl
/-- What a run has. -/
structure Rs where
  pg : Value
  fm : Value
  om : Value
  cv : Value
  pv : Value
  en : Int
  nx : Int
  hp : Int
  iv : Value
  fin : Int
  cd : Int
  ov : Value
  st : Int
def rsC (r : Rs) : List Value := [r.pg, r.fm, r.om, r.cv, r.pv, .int .i64 r.en, .int .i64 r.nx, .int .i64 r.hp, r.iv, .int .i64 r.fin, .int .i64 r.cd, r.ov, .int .i64 r.st]
def Rb (W : World) (R : Nat) (r : Rs) : Prop := Bk W R 102 (rsC r)
theorem wrapI (z : Int) (h0 : -9223372036854775808 ≤ z) (h1 : z ≤ 9223372036854775807) : IntKind.i64.wrap z = z := by
  rw [IntKind.wrap_i64]
  omega
end
section
open Go.RowKit Go.Shelf
theorem make0 (w : World) : (Instr.makeSlice 107 (.int .i64 0) (.int .i64 0)).run Tryz.prog w = .ok (.slice (some ⟨w.heap.size, 0, none⟩) 0 0) (w.alloc (.cells #[] 2)) := by kernel_rfl
theorem info92 : (Tryz.prog.info? 174).map (fun i => (i.zero, i.size, i.bytes)) = some (some (.agg #[.int .i64 0, .int .i64 0, .slice none 0 0]), 3, 40) := by kernel_rfl
theorem info92' : ∃ i, Tryz.prog.info? 174 = some i ∧ i.zero = some (.agg #[.int .i64 0, .int .i64 0, .slice none 0 0]) ∧ i.size = 3 ∧ i.bytes = 40 := by
  have h := info92
  cases hi : Tryz.prog.info? 174 with
  | none => rw [hi] at h; cases h
  | some i => rw [hi] at h; simp at h; exact ⟨i, rfl, h⟩
theorem nb2 (V : World) (o1 o2 : Obj) : ((V.alloc o1).alloc o2).heap[V.heap.size + 1]? = some o2 := by
  have h := (Go.MapKept.heap_alloc (V.alloc o1) o2).1
  rw [show (V.alloc o1).heap.size = V.heap.size + 1 by simp] at h
  exact h
end
section
open Go.RowKit Go.Shelf
theorem info2 : (Tryz.prog.info? 2).map (fun i => (i.zero, i.size, i.bytes)) = some (some (.int .i64 0), 1, 8) := by kernel_rfl
theorem info2' : ∃ i, Tryz.prog.info? 2 = some i ∧ i.zero = some (.int .i64 0) ∧ i.size = 1 ∧ i.bytes = 8 := by
  have h := info2
  cases hi : Tryz.prog.info? 2 with
  | none => rw [hi] at h; cases h
  | some i => rw [hi] at h; simp at h; exact ⟨i, rfl, h⟩
theorem made_one (v : Value) (n : Nat) (h : v.cells = #[v]) : madeCells v.cells n = (List.replicate n v).toArray := by
  apply Array.ext
  · simp [madeCells]
  · intro i h1 h2
    simp [madeCells, h, Nat.mod_one]
theorem mkI (n : Nat) (W : World) (h : n ≤ 4096) : (Instr.makeSlice 107 (.int .i64 n) (.int .i64 n)).run Tryz.prog W = .ok (.slice (some ⟨W.heap.size, 0, none⟩) n n) (W.alloc (.cells (List.replicate n (.int .i64 0)).toArray 2)) := by
  obtain ⟨i, h1, h2, h3, h4⟩ := info2'
  have := run_makeSlice (P := Tryz.prog) W 107 2 i (.int .i64 0) Tryz.underlying107 h1 h2 .i64 .i64 n n (by omega) (by omega) (by rw [h3]; simp; omega) (by rw [h4]; omega) (by omega)
  rw [this, made_one _ _ rfl, h3]
  simp
end
section
open Go.RowKit Go.Shelf
set_option maxRecDepth 20000
set_option maxHeartbeats 2000000
theorem own_block {W : World} {base : Nat} {e : TypeId} {size : Nat} {v : Value} {n : Nat} {xs : List Value} (h : W.ownsRow base e size v n xs) {g : Nat} (hg : v.ownBlock = some g) : base ≤ g ∧ ∃ cur : List Value, Bk W g e cur := by
  obtain ⟨_, ⟨h2, _⟩ | ⟨g', cap, cur, e1, e2, e3, _⟩⟩ := h
  · rw [h2] at hg; cases hg
  · rw [e1] at hg
    cases hg
    exact ⟨e2, cur.toList, by unfold Bk; simpa using e3⟩
theorem own_ne {W : World} {base : Nat} {e t : TypeId} {size : Nat} {v : Value} {n b : Nat} {xs cs : List Value} (h : W.ownsRow base e size v n xs) (hb : Bk W b t cs) (ht : t ≠ e) : v.ownBlock ≠ some b := fun hg => by
  obtain ⟨_, cur, hc⟩ := own_block h hg
  exact hb.ne hc ht rfl
theorem own_keep {W W' : World} {base : Nat} {e : TypeId} {size : Nat} {v : Value} {n : Nat} {xs : List Value} (h : W.ownsRow base e size v n xs) (hk : ∀ g, v.ownBlock = some g → W'.heap[g]? = W.heap[g]?) : W'.ownsRow base e size v n xs := by
  refine ⟨h.1, h.2.imp id ?_⟩
  rintro ⟨g, cap, cur, e1, e2, e3, r⟩
  exact ⟨g, cap, cur, e1, e2, (hk g (by rw [e1]; rfl)).trans e3, r⟩
theorem own_lt {W : World} {base : Nat} {e : TypeId} {size : Nat} {v : Value} {n : Nat} {xs : List Value} (h : W.ownsRow base e size v n xs) {g : Nat} (hg : v.ownBlock = some g) : g < W.heap.size := by
  obtain ⟨_, cur, hc⟩ := own_block h hg
  exact hc.lt
theorem own_onl {S : Nat → Prop} {W W' : World} {base : Nat} {e : TypeId} {size : Nat} {v : Value} {n : Nat} {xs : List Value} (h : W.ownsRow base e size v n xs) (o : Onl S W W') (hs : ∀ g, v.ownBlock = some g → ¬ S g) : W'.ownsRow base e size v n xs := own_keep h fun g hg => o.block g (own_lt h hg) (hs g hg)
theorem own_set {W : World} {base : Nat} {e : TypeId} {size : Nat} {v : Value} {n b o : Nat} {xs : List Value} {u : Value} (h : W.ownsRow base e size v n xs) (hn : v.ownBlock ≠ some b) : (W.setCell ⟨b, o, none⟩ u).ownsRow base e size v n xs := own_keep h fun g hg => (grown_set W b o u).block g (own_lt h hg) (fun e => hn (by cases e; exact hg))
theorem own_low {W : World} {b1 b2 : Nat} {e : TypeId} {size : Nat} {v : Value} {n : Nat} {xs : List Value} (h : W.ownsRow b1 e size v n xs) (hb : b2 ≤ b1) : W.ownsRow b2 e size v n xs := ⟨h.1, h.2.imp id fun ⟨g, cap, cur, e1, e2, r⟩ => ⟨g, cap, cur, e1, Nat.le_trans hb e2, r⟩⟩
theorem onl_grown {W W' : World} {r : Option Nat} (g : W.grownBy W' r) : Onl (fun b => r = some b) W W' := ⟨g.os, g.tape, g.output, g.size, fun k hk hx => g.block k hk (fun e => hx e.symm)⟩
theorem grown_bk {W W' : World} {row : Option Nat} (hg : W.grownBy W' row) {b : Nat} {t : TypeId} {cs : List Value} (hb : Bk W b t cs) (hn : some b ≠ row) : Bk W' b t cs := hb.keep (hg.block b hb.lt hn)
theorem begin40g (R B np cnt : Nat) (kind : Int) (r : Rs) (px : List Value) (w : World) (hR : Rb w R r) (hP : w.ownsRow B 174 3 r.pv np px) (hB : B ≤ w.heap.size) (hc : cnt ≤ 4096) (hnp : np ≤ 1000000) (n0 : 0 ≤ r.nx) (n1 : r.nx ≤ 1099511627776) : Calls Tryz.prog 97 #[.pointer (some ⟨R, 4, none⟩), .int .i64 kind, .int .i64 cnt] w fun e w' => e = .returned (.int .i64 r.nx) ∧ ∃ g pv, Onl (fun b => b = R ∨ r.pv.ownBlock = some b) w w' ∧ Rb w' R { r with pv := pv, nx := r.nx + 8 * ((cnt : Int) + 1) } ∧ w'.ownsRow B 174 3 pv (np + 1) (px ++ [.int .i64 kind, .int .i64 r.nx, .slice (some ⟨g, 0, none⟩) cnt cnt]) ∧ Bk w' g 2 (List.replicate cnt (.int .i64 0)) ∧ w.heap.size ≤ g := by
  have hRP : r.pv.ownBlock ≠ some R := own_ne hP hR (by decide)
  have HR : Hid (Rb (w.setCell ⟨R, 6, none⟩ (.int .i64 (r.nx + 8 * ((cnt : Int) + 1)))) R { r with nx := r.nx + 8 * ((cnt : Int) + 1) }) := hR.set 6 _
  have HP : Hid ((w.setCell ⟨R, 6, none⟩ (.int .i64 (r.nx + 8 * ((cnt : Int) + 1)))).ownsRow B 174 3 r.pv np px) := own_set hP hRP
  have r4 := hR.cell (j := 4) rfl
  have r6 := hR.cell (j := 6) rfl
  have z4 := hR.fz 4
  have z6 := hR.fz 6
  have HO : Hid (Onl (fun b => b = R ∨ r.pv.ownBlock = some b) w (w.setCell ⟨R, 6, none⟩ (.int .i64 (r.nx + 8 * ((cnt : Int) + 1))))) := (Onl.of_below (Below.refl _ _)).set (S := fun b => b = R ∨ r.pv.ownBlock = some b) (b := R) (.inl rfl)
  have hlt := hR.lt
  have mk : ∀ W, (Instr.makeSlice 107 (.int .i64 cnt) (.int .i64 cnt)).run Tryz.prog W = .ok (.slice (some ⟨W.heap.size, 0, none⟩) cnt cnt) (W.alloc (.cells (List.replicate cnt (.int .i64 0)).toArray 2)) := fun W => mkI cnt W hc
  have w1 : IntKind.i64.wrap ((cnt : Int) + 1) = (cnt : Int) + 1 := wrapI _ (by omega) (by omega)
  have w2 : IntKind.i64.wrap (8 * ((cnt : Int) + 1)) = 8 * ((cnt : Int) + 1) := wrapI _ (by omega) (by omega)
  have w3 : IntKind.i64.wrap (r.nx + 8 * ((cnt : Int) + 1)) = r.nx + 8 * ((cnt : Int) + 1) := wrapI _ (by omega) (by omega)
  have HH : Hid (np ≤ 1000000 ∧ B ≤ w.heap.size ∧ r.pv.ownBlock ≠ some R) := ⟨hnp, hB, hRP⟩
  obtain ⟨i9, AN⟩ := info92'
  have AN : Hid (Tryz.prog.info? 174 = some i9 ∧ i9.zero = some (.agg #[.int .i64 0, .int .i64 0, .slice none 0 0]) ∧ i9.size = 3 ∧ i9.bytes = 40) := AN
  clear hR hP hB hnp hRP n0 n1 hc
  go_enter Tryz.func97, Tryz.ntmps97
  go_wp2
  have v4 := HR.out.cell (j := 4) (v := r.pv) rfl
  have y4 := HR.out.fz 4
  have vlt := HR.out.lt
  have HVS : Hid ((w.setCell ⟨R, 6, none⟩ (.int .i64 (r.nx + 8 * ((cnt : Int) + 1)))).heap.size = w.heap.size) := by show _ = _; simp
  clear r4 r6 z4 z6 hlt
  generalize w.setCell ⟨R, 6, none⟩ (.int .i64 (r.nx + 8 * ((cnt : Int) + 1))) = V at *
  go_region_law
    (first | (refine step_append_lies _ rfl (.tmp 26) (.tmp 32) 98 rfl B 174 i9 (.agg #[.int .i64 0, .int .i64 0, .slice none 0 0]) 3 40 Tryz.underlying98 AN.out.1 AN.out.2.1 AN.out.2.2.1 AN.out.2.2.2 rfl (by decide) r.pv np px rfl (by first | exact own_keep HP.out (fun g hg => ((Below.refl V.heap.size V).alloc (Nat.le_refl _) _ |>.alloc (by simp) _).block g (own_lt HP.out hg)) | exact own_keep HP.out (fun g hg => ((Below.refl V.heap.size V).drew.alloc (Nat.le_refl _) _ |>.alloc (by simp) _).block g (own_lt HP.out hg))) ⟨V.heap.size + 1, 0, none⟩ 1 1 [.int .i64 kind, .int .i64 r.nx, .slice (some ⟨V.heap.size, 0, none⟩) cnt cnt] rfl rfl (World.news_of_block (cs := #[.int .i64 kind, .int .i64 r.nx, .slice (some ⟨V.heap.size, 0, none⟩) cnt cnt]) (t := 174) (fr := (0, 0)) (by first | exact nb2 V _ _ | exact nb2 V.drew _ _)) (by intro u hu; simp at hu; rcases hu with rfl | rfl | rfl <;> rfl) (by decide) (by unfold maxLen; have := HH.out.1; omega) (by have := HH.out.1; omega) (by have := HH.out.2.1; have := HVS.out; simp; omega) _ rfl ?_; intro g cap w3 hown hgrow hat hl3; have HZ : Hid (Onl (fun b => r.pv.ownBlock = some b) V w3 ∧ w3.ownsRow B 174 3 (.slice (some ⟨g, 0, none⟩) (np + 1) cap) (np + 1) (px ++ [.int .i64 kind, .int .i64 r.nx, .slice (some ⟨V.heap.size, 0, none⟩) cnt cnt]) ∧ Bk w3 V.heap.size 2 (List.replicate cnt (.int .i64 0)) ∧ g ≠ R) := (by refine ⟨?_, hown, ?_, ?_⟩; (first | exact (((Onl.of_below (Below.refl _ V)).alloc _).alloc _).trans (onl_grown hgrow) | exact (((Onl.of_below (Below.refl _ V).drew).alloc _).alloc _).trans (onl_grown hgrow)); (first | exact grown_bk hgrow ((Bk.new V (List.replicate cnt (.int .i64 0)) 2).alloc _) (fun e => absurd (own_lt HP.out e.symm) (Nat.lt_irrefl _)) | exact grown_bk hgrow ((Bk.new V.drew (List.replicate cnt (.int .i64 0)) 2).alloc _) (fun e => absurd (own_lt HP.out e.symm) (Nat.lt_irrefl _))); (intro e; subst e; rcases hat with h | h; exact HH.out.2.2 h; (simp at h; omega))); have u4 := (HR.out.onl HZ.out.1 HH.out.2.2).cell (j := 4) (v := r.pv) rfl; have x4 := (HR.out.onl HZ.out.1 HH.out.2.2).fz 4; clear hown hgrow hat))
  all_goals (
    go_wp2
    go_ret
    obtain ⟨z1, z2, z3, z4⟩ := HZ.out
    refine ⟨rfl, V.heap.size, .slice (some ⟨g, 0, none⟩) (np + 1) cap, (HO.out.trans (z1.mono fun b h => .inr h)).set (S := fun b => b = R ∨ r.pv.ownBlock = some b) (b := R) (.inl rfl), (HR.out.onl z1 HH.out.2.2).set 4 (.slice (some ⟨g, 0, none⟩) (np + 1) cap), own_set z2 (fun e => z4 (by cases e; rfl)), z3.other (fun e => by have := HR.out.lt; omega), by have := HVS.out; omega⟩)
end
section
open Go.RowKit Go.Shelf
set_option maxHeartbeats 2000000
set_option maxRecDepth 20000
/-- What a run of the document's has. -/
structure Rq where
  pg : Value
  iv : Value
  rd : Int
  ob : Value
  cv : Value
  en : Int
  cd : Int
  ov : Value
  st : Int
  ovr : Bool
  nx : Int
  hp : Int
def rqC (r : Rq) : List Value := [r.pg, r.iv, .int .i64 r.rd, r.ob, r.cv, .int .i64 r.en, .int .i64 r.cd, r.ov, .int .i64 r.st, .bool r.ovr, .int .i64 r.nx, .int .i64 r.hp]
def Rqb (W : World) (R : Nat) (r : Rq) : Prop := Bk W R 70 (rqC r)
theorem rstop32 (R : Nat) (en cd : Int) (r : Rq) (w : World) (hR : Rqb w R r) : Calls Tryz.prog 32 #[.pointer (some ⟨R, 0, none⟩), .int .i64 en, .int .i64 cd] w fun e w' => e = .returned (.tuple #[]) ∧ Onl (fun b => b = R) w w' ∧ Rqb w' R { r with en := en, cd := cd, ovr := true } := by
  have HR : Hid (Rqb w R r) := hR
  have r5 := hR.cell (j := 5) rfl
  have r6 := hR.cell (j := 6) rfl
  have r9 := hR.cell (j := 9) rfl
  have z5 := hR.fz 5
  have z6 := hR.fz 6
  have z9 := hR.fz 9
  have hlt := hR.lt
  clear hR
  go_enter Tryz.func32, Tryz.ntmps32
  go_wp2
  go_returns
  refine ⟨rfl, (((Onl.of_below (Below.refl _ _)).set (S := fun b => b = R) rfl).set rfl).set rfl, ?_⟩
  exact ((HR.out.set 5 (.int .i64 en)).set 6 (.int .i64 cd)).set 9 (.bool true)
theorem info146 : (Tryz.prog.info? 146).map (fun i => (i.zero, i.size, i.bytes)) = some (some (.agg #[.int .i64 0, .slice none 0 0, .bool false, .bool false]), 4, 40) := by kernel_rfl
theorem info146' : ∃ i, Tryz.prog.info? 146 = some i ∧ i.zero = some (.agg #[.int .i64 0, .slice none 0 0, .bool false, .bool false]) ∧ i.size = 4 ∧ i.bytes = 40 := by
  have h := info146
  cases hi : Tryz.prog.info? 146 with
  | none => rw [hi] at h; cases h
  | some i => rw [hi] at h; simp at h; exact ⟨i, rfl, h⟩
theorem rmake73 (R B np cnt : Nat) (bk : Bool) (r : Rq) (px : List Value) (w : World) (hR : Rqb w R r) (hP : w.ownsRow B 146 4 r.ob np px) (hB : B ≤ w.heap.size) (hc : cnt ≤ 4096) (hnp : np ≤ 1000000) (n0 : 0 ≤ r.nx) (n1 : r.nx ≤ 1099511627776) : Calls Tryz.prog 73 #[.pointer (some ⟨R, 0, none⟩), .int .i64 cnt, .bool bk] w fun e w' => e = .returned (.int .i64 np) ∧ ∃ g ob, Onl (fun b => b = R ∨ r.ob.ownBlock = some b) w w' ∧ Rqb w' R { r with ob := ob, nx := r.nx + 8 * ((cnt : Int) + 1) } ∧ w'.ownsRow B 146 4 ob (np + 1) (px ++ [.int .i64 r.nx, .slice (some ⟨g, 0, none⟩) cnt cnt, .bool bk, .bool false]) ∧ Bk w' g 2 (List.replicate cnt (.int .i64 0)) ∧ w.heap.size ≤ g := by
  have hRP : r.ob.ownBlock ≠ some R := own_ne hP hR (by decide)
  have HR : Hid (Rqb w R r) := hR
  have HP : Hid (w.ownsRow B 146 4 r.ob np px) := hP
  have r3 := hR.cell (j := 3) rfl
  have r10 := hR.cell (j := 10) rfl
  have hlt := hR.lt
  have mk : ∀ W, (Instr.makeSlice 107 (.int .i64 cnt) (.int .i64 cnt)).run Tryz.prog W = .ok (.slice (some ⟨W.heap.size, 0, none⟩) cnt cnt) (W.alloc (.cells (List.replicate cnt (.int .i64 0)).toArray 2)) := fun W => mkI cnt W hc
  have w1 : IntKind.i64.wrap ((cnt : Int) + 1) = (cnt : Int) + 1 := wrapI _ (by omega) (by omega)
  have w2 : IntKind.i64.wrap (8 * ((cnt : Int) + 1)) = 8 * ((cnt : Int) + 1) := wrapI _ (by omega) (by omega)
  have w3 : IntKind.i64.wrap (r.nx + 8 * ((cnt : Int) + 1)) = r.nx + 8 * ((cnt : Int) + 1) := wrapI _ (by omega) (by omega)
  have w4 : wrap64 (np : Int) = np := by unfold wrap64; omega
  have HH : Hid (np ≤ 1000000 ∧ B ≤ w.heap.size ∧ r.ob.ownBlock ≠ some R) := ⟨hnp, hB, hRP⟩
  obtain ⟨i9, AN⟩ := info146'
  have AN : Hid (Tryz.prog.info? 146 = some i9 ∧ i9.zero = some (.agg #[.int .i64 0, .slice none 0 0, .bool false, .bool false]) ∧ i9.size = 4 ∧ i9.bytes = 40) := AN
  clear hR hP hB hnp hRP n0 n1 hc
  go_enter Tryz.func73, Tryz.ntmps73
  go_wp2
  go_region_law
    (first | (refine step_append_lies _ rfl (.tmp 11) (.tmp 20) 67 rfl B 146 i9 (.agg #[.int .i64 0, .slice none 0 0, .bool false, .bool false]) 4 40 Tryz.underlying67 AN.out.1 AN.out.2.1 AN.out.2.2.1 AN.out.2.2.2 rfl (by decide) r.ob np px rfl (by first | exact own_keep HP.out (fun g hg => ((Below.refl w.heap.size w).alloc (Nat.le_refl _) _ |>.alloc (by simp) _).block g (own_lt HP.out hg)) | exact own_keep HP.out (fun g hg => ((Below.refl w.heap.size w).drew.alloc (Nat.le_refl _) _ |>.alloc (by simp) _).block g (own_lt HP.out hg))) ⟨w.heap.size + 1, 0, none⟩ 1 1 [.int .i64 r.nx, .slice (some ⟨w.heap.size, 0, none⟩) cnt cnt, .bool bk, .bool false] rfl rfl (World.news_of_block (cs := #[.int .i64 r.nx, .slice (some ⟨w.heap.size, 0, none⟩) cnt cnt, .bool bk, .bool false]) (t := 146) (fr := (0, 0)) (by first | exact nb2 w _ _ | exact nb2 w.drew _ _)) (by intro u hu; simp at hu; rcases hu with rfl | rfl | rfl | rfl <;> rfl) (by decide) (by unfold maxLen; have := HH.out.1; omega) (by have := HH.out.1; omega) (by have := HH.out.2.1; simp; omega) _ rfl ?_; intro g cap w3 hown hgrow hat hl3; have HZ : Hid (Onl (fun b => r.ob.ownBlock = some b) w w3 ∧ w3.ownsRow B 146 4 (.slice (some ⟨g, 0, none⟩) (np + 1) cap) (np + 1) (px ++ [.int .i64 r.nx, .slice (some ⟨w.heap.size, 0, none⟩) cnt cnt, .bool bk, .bool false]) ∧ Bk w3 w.heap.size 2 (List.replicate cnt (.int .i64 0)) ∧ g ≠ R) := (by refine ⟨?_, hown, ?_, ?_⟩; (first | exact (((Onl.of_below (Below.refl _ w)).alloc _).alloc _).trans (onl_grown hgrow) | exact (((Onl.of_below (Below.refl _ w).drew).alloc _).alloc _).trans (onl_grown hgrow)); (first | exact grown_bk hgrow ((Bk.new w (List.replicate cnt (.int .i64 0)) 2).alloc _) (fun e => absurd (own_lt HP.out e.symm) (Nat.lt_irrefl _)) | exact grown_bk hgrow ((Bk.new w.drew (List.replicate cnt (.int .i64 0)) 2).alloc _) (fun e => absurd (own_lt HP.out e.symm) (Nat.lt_irrefl _))); (intro e; subst e; rcases hat with h | h; exact HH.out.2.2 h; (have := HR.out.lt; simp at h; omega))); have HR3 : Hid (Rqb w3 R r) := HR.out.onl HZ.out.1 HH.out.2.2; have u3 := HR3.out.cell (j := 3) rfl; have x3 := HR3.out.fz 3; clear hown hgrow hat))
  all_goals (
    have u10 := HR3.out.cell (j := 10) rfl
    have x10 := HR3.out.fz 10
    go_wp2
    go_ret
    obtain ⟨z1, z2, z3, z4⟩ := HZ.out
    refine ⟨by show Ending.returned (.int .i64 (wrap64 (np : Int))) = _; rw [w4], w.heap.size, .slice (some ⟨g, 0, none⟩) (np + 1) cap, (((Onl.of_below (Below.refl _ w)).trans (z1.mono fun b h => .inr h)).set (S := fun b => b = R ∨ r.ob.ownBlock = some b) (b := R) (.inl rfl)).set (b := R) (.inl rfl), (HR3.out.set 3 (.slice (some ⟨g, 0, none⟩) (np + 1) cap)).set 10 (.int .i64 (r.nx + 8 * ((cnt : Int) + 1))), own_set (own_set z2 (fun e => z4 (by cases e; rfl))) (fun e => z4 (by cases e; rfl)), (z3.other (fun e => by have := HR.out.lt; omega)).other (fun e => by have := HR.out.lt; omega), Nat.le_refl _⟩)
end
end Go.Proofs.YtdppoblbenbafaaGreatDoor
