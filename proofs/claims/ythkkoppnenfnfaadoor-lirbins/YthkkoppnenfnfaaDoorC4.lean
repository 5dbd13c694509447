/- Ended parts are let go. -/
import Derived.Test.YthkkoppnenfnfaaDoorC3
import Derived.Test.YthkkoppnenfnfaaDoorC2
namespace Go.Proofs.YthkkoppnenfnfaaDoor
open Go.RowKit Go.Shelf
/-- All blocks stay but those of S. -/
structure Onl (S : Nat → Prop) (w W : World) : Prop where
  os : W.os = w.os
  tape : W.tape = w.tape
  output : W.output = w.output
  size : w.heap.size ≤ W.heap.size
  block : ∀ k, k < w.heap.size → ¬ S k → W.heap[k]? = w.heap[k]?
theorem Onl.of_below {S : Nat → Prop} {w W : World} (h : Below w.heap.size w W) : Onl S w W := ⟨h.os, h.tape, h.output, h.size, fun k hk _ => h.block k hk⟩
theorem Onl.trans {S : Nat → Prop} {w W W' : World} (h : Onl S w W) (k : Onl S W W') : Onl S w W' := ⟨k.os.trans h.os, k.tape.trans h.tape, k.output.trans h.output, Nat.le_trans h.size k.size, fun i hi hx => (k.block i (Nat.lt_of_lt_of_le hi h.size) hx).trans (h.block i hi hx)⟩
theorem Onl.mono {S T : Nat → Prop} {w W : World} (h : Onl S w W) (k : ∀ i, S i → T i) : Onl T w W := ⟨h.os, h.tape, h.output, h.size, fun i hi hx => h.block i hi (fun s => hx (k i s))⟩
theorem Onl.set {S : Nat → Prop} {w W : World} (h : Onl S w W) {b o : Nat} {v : Value} (hb : S b) : Onl S w (W.setCell ⟨b, o, none⟩ v) :=
  h.trans (by have hg := grown_set W b o v; exact ⟨hg.os, hg.tape, hg.output, hg.size, fun k hk hx => hg.block k hk (fun e => hx (by cases e; exact hb))⟩)
theorem Onl.alloc {S : Nat → Prop} {w W : World} (h : Onl S w W) (o : Obj) : Onl S w (W.alloc o) := h.trans (Onl.of_below ((Below.refl _ W).alloc (Nat.le_refl _) o))
theorem Onl.drewN {S : Nat → Prop} {w W : World} (h : Onl S w W) (n : Nat) : Onl S w (W.drewN n) := h.trans (Onl.of_below (below_drewN (Below.refl _ _) n))
theorem Cl.onl {S : Nat → Prop} {W W' : World} {b : Nat} {f : List Value} (h : Cl W b f) (o : Onl S W W') (hs : ¬ S b) : Cl W' b f := h.keep (o.block b h.lt hs)
theorem Onl.below {S : Nat → Prop} {B : Nat} {w W W' : World} (hB : B ≤ w.heap.size) (h : Below B w W) (o : Onl S W W') (hs : ∀ b, S b → B ≤ b) : Below B w W' :=
  ⟨o.os.trans h.os, o.tape.trans h.tape, o.output.trans h.output, Nat.le_trans h.size o.size, fun i hi => (o.block i (Nat.lt_of_lt_of_le (Nat.lt_of_lt_of_le hi hB) h.size) (fun s => by have := hs i s; omega)).trans (h.block i hi)⟩
theorem Cl.drewN {W : World} {b : Nat} {f : List Value} (h : Cl W b f) (n : Nat) : Cl (W.drewN n) b f := h.below (below_drewN (Below.refl _ _) n)
set_option maxHeartbeats 1000000 in
theorem ended72 (a : Int) (w : World) : Calls Tryd.prog 72 #[.agg #[.int .i64 0, .int .i64 a, .slice none 0 0]] w fun e w' => e = .returned (.bool true) ∧ Below w.heap.size w w' := by
  go_enter Tryd.func72, Tryd.ntmps72
  go_wp2
  go_ret
  exact ⟨rfl, (Below.refl _ _).alloc (Nat.le_refl _) _⟩
set_option maxHeartbeats 2000000 in
theorem index76 (P pa : Nat) (a : Int) (w : World) (h : Cl w P [.int .i64 0, .int .i64 a, .slice none 0 0]) : Calls Tryd.prog 76 #[.slice (some ⟨P, 0, none⟩) 1 pa, .func (.func 72) #[] #[]] w fun e w' => e = .returned (.int .i64 0) ∧ Below w.heap.size w w' := by
  have c0 := h.cell (j := 0) rfl
  have c1 := h.cell (j := 1) rfl
  have c2 := h.cell (j := 2) rfl
  clear h
  go_enter Tryd.func76, Tryd.ntmps76
  go_wp2
  refine wp_loop_rounds 1 ?_
  rw [rounds_succ]
  go_wp2_with (first | (go_at_call 72; refine (ended72 _ _).mono ?_; rintro e w1 ⟨rfl, hb⟩))
  go_ret
  exact ⟨rfl, hb⟩
theorem clear61 (P pa : Nat) (w : World) (c0 : w.cell? ⟨P, 0, none⟩ = some (.int .i64 0)) (a : Int) (c1 : w.cell? ⟨P, 1, none⟩ = some (.int .i64 a)) (c2 : w.cell? ⟨P, 2, none⟩ = some (.slice none 0 0)) (z0 : w.frozen? ⟨P, 0, none⟩ = false) (z1 : w.frozen? ⟨P, 1, none⟩ = false) (z2 : w.frozen? ⟨P, 2, none⟩ = false) : (Builtin.clear_ #[61] 0 #[.slice (some ⟨P, 0, none⟩) 1 pa]).run Tryd.prog w = .ok (.tuple #[]) (((w.setCell ⟨P, 0, none⟩ (.int .i64 0)).setCell ⟨P, 1, none⟩ (.int .i64 0)).setCell ⟨P, 2, none⟩ (.slice none 0 0)) := by
  unfold Builtin.clear_
  have hz : (zeroValue 92).run Tryd.prog w = .ok (.agg #[.int .i64 0, .int .i64 0, .slice none 0 0]) w := by kernel_rfl
  have e : (Builtin.zeroCells #[.int .i64 0, .int .i64 0, .slice none 0 0] 1).toList = [.int .i64 0, .int .i64 0, .slice none 0 0] := by kernel_rfl
  have hst := run_storeCells_cells (P := Tryd.prog) P 0 [.int .i64 0, .int .i64 0, .slice none 0 0] 0 w (by intro j hj; rcases (by simp at hj; omega : j = 0 ∨ j = 1 ∨ j = 2) with rfl | rfl | rfl <;> simp [c0, c1, c2]) (by intro j hj; rcases (by simp at hj; omega : j = 0 ∨ j = 1 ∨ j = 2) with rfl | rfl | rfl <;> simp [z0, z1, z2]) (by intro v hv; simp at hv; rcases hv with rfl | rfl <;> rfl)
  simp [Sem.run_bind, run_underlying Tryd.underlying61, hz, Value.cells, e]
  rw [hst]
  rfl
set_option maxRecDepth 20000 in
set_option maxHeartbeats 2000000 in
theorem delete71 (P pa : Nat) (a : Int) (w : World) (h : Cl w P [.int .i64 0, .int .i64 a, .slice none 0 0]) : Calls Tryd.prog 71 #[.slice (some ⟨P, 0, none⟩) 1 pa, .func (.func 72) #[] #[]] w fun e w' => e = .returned (.slice (some ⟨P, 0, none⟩) 0 pa) ∧ Onl (fun b => b = P) w w' := by
  have hI : Hid (Calls Tryd.prog 76 #[.slice (some ⟨P, 0, none⟩) 1 pa, .func (.func 72) #[] #[]] w fun e w' => e = .returned (.int .i64 0) ∧ Below w.heap.size w w') := index76 P pa a w h
  have HC : Hid (Cl w P [.int .i64 0, .int .i64 a, .slice none 0 0]) := h
  clear h
  go_enter Tryd.func71, Tryd.ntmps71
  go_wp2_with fail
  refine hI.out.mono ?_
  rintro e w1 ⟨rfl, hb⟩
  have HC1 := HC.out.below hb
  have c0 := HC1.cell (j := 0) rfl
  have c1 := HC1.cell (j := 1) rfl
  have c2 := HC1.cell (j := 2) rfl
  have z0 := HC1.fz 0
  have z1 := HC1.fz 1
  have z2 := HC1.fz 2
  have HB : Hid (Below w.heap.size w w1) := hb
  clear hb HC1
  have hk := clear61 P pa w1 c0 a c1 c2 z0 z1 z2
  go_wp2
  refine wp_loop_rounds 1 ?_
  rw [rounds_succ]
  go_wp2
  go_ret
  exact ⟨rfl, (((Onl.of_below (S := fun b => b = P) HB.out).set (b := P) rfl).set (b := P) rfl).set (b := P) rfl⟩
set_option maxRecDepth 20000 in
set_option maxHeartbeats 2000000 in
theorem tidy62 (R P pa : Nat) (a : Int) (f : List Value) (w : World) (hP : Cl w P [.int .i64 0, .int .i64 a, .slice none 0 0]) (hR : Cl w R f) (hf : f.length = 13) (h4 : f[4]? = some (.slice (some ⟨P, 0, none⟩) 1 pa)) (h5 : f[5]? = some (.int .i64 1)) (hne : R ≠ P) : Calls Tryd.prog 62 #[.pointer (some ⟨R, 4, none⟩)] w fun e w' => e = .returned (.tuple #[]) ∧ Onl (fun b => b = R ∨ b = P) w w' ∧ Cl w' R ((f.set 4 (.slice (some ⟨P, 0, none⟩) 0 pa)).set 5 (.int .i64 0)) := by
  have HP : Hid (∀ n, Cl (w.drewN n) P [.int .i64 0, .int .i64 a, .slice none 0 0]) := fun n => hP.drewN n
  have HR : Hid (∀ n, Cl (w.drewN n) R f) := fun n => hR.drewN n
  have c4 := dcell (hR.cell h4)
  have c5 := dcell (hR.cell h5)
  have HF : Hid (f.length = 13) := hf
  have H4 : Hid (f[4]? = some (.slice (some ⟨P, 0, none⟩) 1 pa)) := h4
  have H5 : Hid (f[5]? = some (.int .i64 1)) := h5
  have HN : Hid (R ≠ P) := hne
  clear hP hR h4 h5 hf hne
  go_enter Tryd.func62, Tryd.ntmps62
  go_wp2
  go_quiet (fail)
  go_wp2_with fail
  refine (delete71 P pa a _ (HP.out nq)).mono ?_
  rintro e w1 ⟨rfl, ho⟩
  have HO : Hid (Onl (fun b => b = P) (w.drewN nq) w1) := ho
  have hR1 := (HR.out nq).onl ho (fun e => HN.out e)
  have HR1 : Hid (Cl w1 R f) := hR1
  have z4 := hR1.fz 4
  have z5 := hR1.fz 5
  have k4 := hR1.cell H4.out
  have k5 := hR1.cell H5.out
  clear ho hR1
  go_wp2
  go_returns
  refine ⟨rfl, ?_, ?_⟩
  · exact ((((Onl.of_below (below_drewN (Below.refl _ _) nq)).trans (HO.out.mono fun b e => .inr e)).set (.inl rfl)).set (.inl rfl))
  · exact (HR1.out.set (by have := HF.out; omega) _).set (by have := HF.out; simp; omega) _
end Go.Proofs.YthkkoppnenfnfaaDoor
