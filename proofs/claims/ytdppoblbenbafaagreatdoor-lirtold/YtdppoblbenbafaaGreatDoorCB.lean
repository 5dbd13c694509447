/- Ended parts are let go. The runtime's print, called. A frame ends; a call comes back. A call comes back. -/
import Derived.Test.YtdppoblbenbafaaGreatDoorCA
import Derived.Deep.RegionHeld3
namespace Go.Proofs.YtdppoblbenbafaaGreatDoor
section
open Go.RowKit Go.Shelf
/-- All blocks stay but those of S. -/
structure Onl (S : Nat → Prop) (w W : World) : Prop where
  os : W.os = w.os
  tape : W.tape = w.tape
  output : W.output = w.output
  size : w.heap.size ≤ W.heap.size
  block : ∀ k, k < w.heap.size → ¬ S k → W.heap[k]? = w.heap[k]?
theorem Onl.of_below {S : Nat → Prop} {w W : World} (h : Below w.heap.size w W) : Onl S w W := ⟨h.os, h.tape, h.output, h.size, fun k hk _ => h.block k hk⟩
theorem Onl.trans {S : Nat → Prop} {w W W' : World} (h : Onl S w W) (k : Onl S W W') : Onl S w W' := ⟨k.os.trans h.os, k.tape.trans h.tape, k.output.trans h.output, Nat.le_trans h.size k.size, fun i hi hx => (k.block i (Nat.lt_of_lt_of_le hi h.size) hx).trans (h.block i hi hx)⟩
theorem Onl.mono {S T : Nat → Prop} {w W : World} (h : Onl S w W) (k : ∀ i, S i → T i) : Onl T w W := ⟨h.os, h.tape, h.output, h.size, fun i hi hx => h.block i hi (fun s => hx (k i s))⟩
theorem Onl.set {S : Nat → Prop} {w W : World} (h : Onl S w W) {b o : Nat} {v : Value} (hb : S b) : Onl S w (W.setCell ⟨b, o, none⟩ v) :=
  h.trans (by have hg := grown_set W b o v; exact ⟨hg.os, hg.tape, hg.output, hg.size, fun k hk hx => hg.block k hk (fun e => hx (by cases e; exact hb))⟩)
theorem Onl.alloc {S : Nat → Prop} {w W : World} (h : Onl S w W) (o : Obj) : Onl S w (W.alloc o) := h.trans (Onl.of_below ((Below.refl _ W).alloc (Nat.le_refl _) o))
theorem Onl.drewN {S : Nat → Prop} {w W : World} (h : Onl S w W) (n : Nat) : Onl S w (W.drewN n) := h.trans (Onl.of_below (below_drewN (Below.refl _ _) n))
theorem Cl.onl {S : Nat → Prop} {W W' : World} {b : Nat} {f : List Value} (h : Cl W b f) (o : Onl S W W') (hs : ¬ S b) : Cl W' b f := h.keep (o.block b h.lt hs)
theorem Onl.below {S : Nat → Prop} {B : Nat} {w W W' : World} (hB : B ≤ w.heap.size) (h : Below B w W) (o : Onl S W W') (hs : ∀ b, S b → B ≤ b) : Below B w W' :=
  ⟨o.os.trans h.os, o.tape.trans h.tape, o.output.trans h.output, Nat.le_trans h.size o.size, fun i hi => (o.block i (Nat.lt_of_lt_of_le (Nat.lt_of_lt_of_le hi hB) h.size) (fun s => by have := hs i s; omega)).trans (h.block i hi)⟩
theorem Cl.drewN {W : World} {b : Nat} {f : List Value} (h : Cl W b f) (n : Nat) : Cl (W.drewN n) b f := h.below (below_drewN (Below.refl _ _) n)
set_option maxHeartbeats 1000000 in
theorem ended72 (a : Int) (w : World) : Calls Tryz.prog 170 #[.agg #[.int .i64 0, .int .i64 a, .slice none 0 0]] w fun e w' => e = .returned (.bool true) ∧ Below w.heap.size w w' := by
  go_enter Tryz.func170, Tryz.ntmps170
  go_wp2
  go_ret
  exact ⟨rfl, (Below.refl _ _).alloc (Nat.le_refl _) _⟩
set_option maxHeartbeats 2000000 in
theorem index76 (P pa : Nat) (a : Int) (w : World) (h : Cl w P [.int .i64 0, .int .i64 a, .slice none 0 0]) : Calls Tryz.prog 181 #[.slice (some ⟨P, 0, none⟩) 1 pa, .func (.func 170) #[] #[]] w fun e w' => e = .returned (.int .i64 0) ∧ Below w.heap.size w w' := by
  have c0 := h.cell (j := 0) rfl
  have c1 := h.cell (j := 1) rfl
  have c2 := h.cell (j := 2) rfl
  clear h
  go_enter Tryz.func181, Tryz.ntmps181
  go_wp2
  refine wp_loop_rounds 1 ?_
  rw [rounds_succ]
  go_wp2_with (first | (go_at_call 170; refine (ended72 _ _).mono ?_; rintro e w1 ⟨rfl, hb⟩))
  go_ret
  exact ⟨rfl, hb⟩
theorem clear61 (P pa : Nat) (w : World) (c0 : w.cell? ⟨P, 0, none⟩ = some (.int .i64 0)) (a : Int) (c1 : w.cell? ⟨P, 1, none⟩ = some (.int .i64 a)) (c2 : w.cell? ⟨P, 2, none⟩ = some (.slice none 0 0)) (z0 : w.frozen? ⟨P, 0, none⟩ = false) (z1 : w.frozen? ⟨P, 1, none⟩ = false) (z2 : w.frozen? ⟨P, 2, none⟩ = false) : (Builtin.clear_ #[98] 0 #[.slice (some ⟨P, 0, none⟩) 1 pa]).run Tryz.prog w = .ok (.tuple #[]) (((w.setCell ⟨P, 0, none⟩ (.int .i64 0)).setCell ⟨P, 1, none⟩ (.int .i64 0)).setCell ⟨P, 2, none⟩ (.slice none 0 0)) := by
  unfold Builtin.clear_
  have hz : (zeroValue 174).run Tryz.prog w = .ok (.agg #[.int .i64 0, .int .i64 0, .slice none 0 0]) w := by kernel_rfl
  have e : (Builtin.zeroCells #[.int .i64 0, .int .i64 0, .slice none 0 0] 1).toList = [.int .i64 0, .int .i64 0, .slice none 0 0] := by kernel_rfl
  have hst := run_storeCells_cells (P := Tryz.prog) P 0 [.int .i64 0, .int .i64 0, .slice none 0 0] 0 w (by intro j hj; rcases (by simp at hj; omega : j = 0 ∨ j = 1 ∨ j = 2) with rfl | rfl | rfl <;> simp [c0, c1, c2]) (by intro j hj; rcases (by simp at hj; omega : j = 0 ∨ j = 1 ∨ j = 2) with rfl | rfl | rfl <;> simp [z0, z1, z2]) (by intro v hv; simp at hv; rcases hv with rfl | rfl <;> rfl)
  simp [Sem.run_bind, run_underlying Tryz.underlying98, hz, Value.cells, e]
  rw [hst]
  rfl
set_option maxRecDepth 20000 in
set_option maxHeartbeats 2000000 in
theorem delete71 (P pa : Nat) (a : Int) (w : World) (h : Cl w P [.int .i64 0, .int .i64 a, .slice none 0 0]) : Calls Tryz.prog 169 #[.slice (some ⟨P, 0, none⟩) 1 pa, .func (.func 170) #[] #[]] w fun e w' => e = .returned (.slice (some ⟨P, 0, none⟩) 0 pa) ∧ Onl (fun b => b = P) w w' := by
  have hI : Hid (Calls Tryz.prog 181 #[.slice (some ⟨P, 0, none⟩) 1 pa, .func (.func 170) #[] #[]] w fun e w' => e = .returned (.int .i64 0) ∧ Below w.heap.size w w') := index76 P pa a w h
  have HC : Hid (Cl w P [.int .i64 0, .int .i64 a, .slice none 0 0]) := h
  clear h
  go_enter Tryz.func169, Tryz.ntmps169
  go_wp2_with fail
  refine hI.out.mono ?_
  rintro e w1 ⟨rfl, hb⟩
  have HC1 := HC.out.below hb
  have c0 := HC1.cell (j := 0) rfl
  have c1 := HC1.cell (j := 1) rfl
  have c2 := HC1.cell (j := 2) rfl
  have z0 := HC1.fz 0
  have z1 := HC1.fz 1
  have z2 := HC1.fz 2
  have HB : Hid (Below w.heap.size w w1) := hb
  clear hb HC1
  have hk := clear61 P pa w1 c0 a c1 c2 z0 z1 z2
  go_wp2
  refine wp_loop_rounds 1 ?_
  rw [rounds_succ]
  go_wp2
  go_ret
  exact ⟨rfl, (((Onl.of_below (S := fun b => b = P) HB.out).set (b := P) rfl).set (b := P) rfl).set (b := P) rfl⟩
set_option maxRecDepth 20000 in
set_option maxHeartbeats 2000000 in
theorem tidy62 (R P pa : Nat) (a : Int) (f : List Value) (w : World) (hP : Cl w P [.int .i64 0, .int .i64 a, .slice none 0 0]) (hR : Cl w R f) (hf : f.length = 13) (h4 : f[4]? = some (.slice (some ⟨P, 0, none⟩) 1 pa)) (h5 : f[5]? = some (.int .i64 1)) (hne : R ≠ P) : Calls Tryz.prog 155 #[.pointer (some ⟨R, 4, none⟩)] w fun e w' => e = .returned (.tuple #[]) ∧ Onl (fun b => b = R ∨ b = P) w w' ∧ Cl w' R ((f.set 4 (.slice (some ⟨P, 0, none⟩) 0 pa)).set 5 (.int .i64 0)) := by
  have HP : Hid (∀ n, Cl (w.drewN n) P [.int .i64 0, .int .i64 a, .slice none 0 0]) := fun n => hP.drewN n
  have HR : Hid (∀ n, Cl (w.drewN n) R f) := fun n => hR.drewN n
  have c4 := dcell (hR.cell h4)
  have c5 := dcell (hR.cell h5)
  have HF : Hid (f.length = 13) := hf
  have H4 : Hid (f[4]? = some (.slice (some ⟨P, 0, none⟩) 1 pa)) := h4
  have H5 : Hid (f[5]? = some (.int .i64 1)) := h5
  have HN : Hid (R ≠ P) := hne
  clear hP hR h4 h5 hf hne
  go_enter Tryz.func155, Tryz.ntmps155
  go_wp2
  go_quiet (fail)
  go_wp2_with fail
  refine (delete71 P pa a _ (HP.out nq)).mono ?_
  rintro e w1 ⟨rfl, ho⟩
  have HO : Hid (Onl (fun b => b = P) (w.drewN nq) w1) := ho
  have hR1 := (HR.out nq).onl ho (fun e => HN.out e)
  have HR1 : Hid (Cl w1 R f) := hR1
  have z4 := hR1.fz 4
  have z5 := hR1.fz 5
  have k4 := hR1.cell H4.out
  have k5 := hR1.cell H5.out
  clear ho hR1
  go_wp2
  go_returns
  refine ⟨rfl, ?_, ?_⟩
  · exact ((((Onl.of_below (below_drewN (Below.refl _ _) nq)).trans (HO.out.mono fun b e => .inr e)).set (.inl rfl)).set (.inl rfl))
  · exact (HR1.out.set (by have := HF.out; omega) _).set (by have := HF.out; simp; omega) _
end
section
open Go.RowKit Go.Shelf
theorem make1 (w : World) : (Instr.makeSlice 107 (.int .i64 1) (.int .i64 1)).run Tryz.prog w = .ok (.slice (some ⟨w.heap.size, 0, none⟩) 1 1) (w.alloc (.cells #[.int .i64 0] 2)) := by kernel_rfl
set_option maxRecDepth 20000 in
set_option maxHeartbeats 2000000 in
theorem call43 (R C Q ca x z y : Nat) (at_ : Int) (f : List Value) (w : World) (hC : Cl w C [.slice (some ⟨y, 0, none⟩) 1 1, .slice (some ⟨Q, 0, none⟩) 1 1, .int .i64 65536, .int .i64 0, .int .i64 0, .int .i64 at_, .int .i64 (-1)]) (hQ : Cl w Q [.int .i64 7]) (hR : Cl w R f) (hf : f.length = 13) (h3 : f[3]? = some (.slice (some ⟨C, 0, none⟩) 1 ca)) (h11 : f[11]? = some (.slice none 0 0)) (hI : Ib w x z) (hxR : x ≠ R) : Calls Tryz.prog 101 #[.pointer (some ⟨R, 0, none⟩), .pointer (some ⟨x, 9, none⟩)] w fun e w' => e = .returned (.tuple #[]) ∧ ∃ g cap, Onl (fun b => b = R) w w' ∧ Cl w' R (f.set 11 (.slice (some ⟨g, 0, none⟩) 2 cap)) ∧ Cl w' g [.int .u8 55, .int .u8 10] ∧ w.heap.size ≤ g := by
  have hI40 : Hid (Calls Tryz.prog 98 #[.pointer (some ⟨R, 0, none⟩)] w fun e w' => e = .returned (.pointer (some ⟨C, 0, none⟩)) ∧ ∃ n, w' = w.drewN n) := innermost40 R C ca w (hR.cell h3)
  have HC : Hid (Cl w C [.slice (some ⟨y, 0, none⟩) 1 1, .slice (some ⟨Q, 0, none⟩) 1 1, .int .i64 65536, .int .i64 0, .int .i64 0, .int .i64 at_, .int .i64 (-1)]) := hC
  have HQ : Hid (Cl w Q [.int .i64 7]) := hQ
  have HR : Hid (Cl w R f) := hR
  have HI : Hid (Ib w x z) := hI
  have HF : Hid (f.length = 13) := hf
  have HX : Hid (x ≠ R) := hxR
  have H11 : Hid (f[11]? = some (.slice none 0 0)) := h11
  have HPr : Hid (∀ W, Below w.heap.size w W → Calls Tryz.prog 133 #[.pointer (some ⟨R, 0, none⟩), .int .i64 7] W fun e w' => e = .returned (.int .i64 0) ∧ ∃ g cap w4, Below w.heap.size w w4 ∧ w' = w4.setCell ⟨R, 11, none⟩ (.slice (some ⟨g, 0, none⟩) 2 cap) ∧ Cl w4 g [.int .u8 55, .int .u8 10] ∧ w.heap.size ≤ g) := fun W hW => (print51 R W ((hR.below hW).cell h11) (hR.below hW).lt ((hR.below hW).fz 11)).mono fun e w' ⟨h1, g, cap, w4, h2, h3, h4, h5⟩ => ⟨h1, g, cap, w4, hW.trans (h2.mono hW.size), h3, h4, Nat.le_trans hW.size h5⟩
  clear hC hQ hR hf h3 h11 hI hxR
  go_enter Tryz.func101, Tryz.ntmps101
  go_wp2_with fail
  refine hI40.out.mono ?_
  rintro e w1 ⟨rfl, n1, hw1⟩
  have hb1 : Below w.heap.size w w1 := by rw [hw1]; exact below_drewN (Below.refl _ _) n1
  have HB1 : Hid (Below w.heap.size w w1) := hb1
  have hC1 := HC.out.below hb1
  have hQ1 := HQ.out.below hb1
  have hI1 := HI.out.below hb1
  have k1 := hC1.cell (j := 1) rfl
  have k1' := acell hC1.lt k1
  have q0 := hQ1.cell (j := 0) rfl
  have q0' := acell hQ1.lt q0
  have i1 := hI1.at_ 10 _ rfl
  have i5 := hI1.at_ 14 _ rfl
  have i6 := hI1.at_ 15 _ rfl
  have i1' := acell hI1.lx i1
  have i5' := acell hI1.lx i5
  have i6' := acell hI1.lx i6
  have a0 := hI1.ar
  have a0' := acell hI1.lz a0
  have e1 : ¬ x = w1.heap.size := by have := hI1.lx; omega
  have e2 : ¬ w1.heap.size = x := by have := hI1.lx; omega
  have e3 : ¬ C = w1.heap.size := by have := hC1.lt; omega
  have e4 : ¬ w1.heap.size = C := by have := hC1.lt; omega
  have mk := make1 w1
  clear hw1 hb1 hC1 hQ1 hI1
  go_wp2
  refine wp_loop_rounds 2 ?_
  rw [rounds_succ]
  go_wp2
  rw [rounds_succ]
  go_wp2
  go_region_with (first | (go_at_call 133; refine (HPr.out _ (by first | exact (HB1.out.alloc HB1.out.size _).drew | exact (HB1.out.alloc HB1.out.size _))).mono ?_; rintro e w3 ⟨rfl, g, cap, w4, hb4, hw3, hcl, hge⟩; have dx : w3.cell? ⟨x, 10, none⟩ = some (.int .i64 (-1)) := (by rw [hw3, World.cell?_of_block ((grown_set w4 R 11 _).block x (HI.out.below hb4).lx (fun e => HX.out (by cases e; rfl)))]; exact (HI.out.below hb4).at_ 10 _ rfl); have HE : Hid (Onl (fun b => b = R) w w3 ∧ Cl w3 R (f.set 11 (.slice (some ⟨g, 0, none⟩) 2 cap)) ∧ Cl w3 g [.int .u8 55, .int .u8 10] ∧ w.heap.size ≤ g) := (by rw [hw3]; exact ⟨(Onl.of_below hb4).set (S := fun b => b = R) (b := R) rfl, (HR.out.below hb4).set (by have := HF.out; omega) _, hcl.other (fun e => by have := HR.out.lt; omega), hge⟩); clear hb4 hw3 hcl hge) | (go_at_call 132; refine (answer_none R 0 _).mono ?_; rintro e w5 ⟨rfl, rfl⟩))
  all_goals (
    go_wp2
    go_returns
    exact ⟨rfl, g, cap, HE.out⟩)
end
section
open Go.RowKit Go.Shelf
set_option maxRecDepth 20000 in
set_option maxHeartbeats 2000000 in
theorem end55 (R P pa : Nat) (wa : Option Addr) (wc : Nat) (f : List Value) (w : World) (hP : Cl w P [.int .i64 1, .int .i64 65536, .slice wa 0 wc]) (hR : Cl w R f) (hf : f.length = 13) (h4 : f[4]? = some (.slice (some ⟨P, 0, none⟩) 1 pa)) (h5 : f[5]? = some (.int .i64 0)) (hne : R ≠ P) : Calls Tryz.prog 137 #[.pointer (some ⟨R, 4, none⟩), .int .i64 1, .int .i64 65536, .int .i64 0] w fun e w' => e = .returned (.bool true) ∧ Onl (fun b => b = R ∨ b = P) w w' ∧ Cl w' R ((f.set 4 (.slice (some ⟨P, 0, none⟩) 0 pa)).set 5 (.int .i64 0)) := by
  have hF : Hid (Calls Tryz.prog 153 #[.pointer (some ⟨R, 4, none⟩), .int .i64 65536] w fun e w' => e = .returned (.int .i64 0) ∧ Below w.heap.size w w') := find60 R P pa w (hR.cell h4) (hP.cell (j := 1) rfl) hR.lt hP.lt
  have HP : Hid (Cl w P [.int .i64 1, .int .i64 65536, .slice wa 0 wc]) := hP
  have HR : Hid (Cl w R f) := hR
  have HF : Hid (f.length = 13) := hf
  have H4 : Hid (f[4]? = some (.slice (some ⟨P, 0, none⟩) 1 pa)) := h4
  have H5 : Hid (f[5]? = some (.int .i64 0)) := h5
  have HN : Hid (R ≠ P) := hne
  clear hP hR h4 h5 hf hne
  go_enter Tryz.func137, Tryz.ntmps137
  go_wp2_with fail
  refine hF.out.mono ?_
  rintro e w1 ⟨rfl, hb⟩
  have HB : Hid (Below w.heap.size w w1) := hb
  have hP1 := HP.out.below hb
  have hR1 := HR.out.below hb
  have p0 := hP1.cell (j := 0) rfl
  have p1 := hP1.cell (j := 1) rfl
  have p2 := hP1.cell (j := 2) rfl
  have q0 := acell hP1.lt p0
  have q1 := acell hP1.lt p1
  have q2 := acell hP1.lt p2
  have r4 := hR1.cell H4.out
  have r5 := hR1.cell H5.out
  have s4 := acell hR1.lt r4
  have s5 := acell hR1.lt r5
  have y0 := (hP1.alloc (.cells #[.int .i64 1, .int .i64 65536, .slice wa 0 wc] 174)).fz 0
  have y1 := (hP1.alloc (.cells #[.int .i64 1, .int .i64 65536, .slice wa 0 wc] 174)).fz 1
  have y2 := (hP1.alloc (.cells #[.int .i64 1, .int .i64 65536, .slice wa 0 wc] 174)).fz 2
  have y5 := (hR1.alloc (.cells #[.int .i64 1, .int .i64 65536, .slice wa 0 wc] 174)).fz 5
  have n0 : ¬ R = P := HN.out
  have n1 : ¬ P = R := fun e => HN.out e.symm
  have HP2 : Hid (Cl (w1.alloc (.cells #[.int .i64 1, .int .i64 65536, .slice wa 0 wc] 174)) P [.int .i64 1, .int .i64 65536, .slice wa 0 wc]) := hP1.alloc _
  have HR2 : Hid (Cl (w1.alloc (.cells #[.int .i64 1, .int .i64 65536, .slice wa 0 wc] 174)) R f) := hR1.alloc _
  clear hb hP1 hR1
  go_wp2_with fail
  have hP3 : Cl (((((w1.alloc (.cells #[.int .i64 1, .int .i64 65536, .slice wa 0 wc] 174)).setCell ⟨P, 0, none⟩ (.int .i64 0)).setCell ⟨P, 1, none⟩ (.int .i64 65536)).setCell ⟨P, 2, none⟩ (.slice none 0 0)).setCell ⟨R, 5, none⟩ (.int .i64 1)) P [.int .i64 0, .int .i64 65536, .slice none 0 0] := (((HP2.out.set (o := 0) (by simp) (.int .i64 0)).set (o := 1) (by simp) (.int .i64 65536)).set (o := 2) (by simp) (.slice none 0 0)).other n1
  have hR3 : Cl (((((w1.alloc (.cells #[.int .i64 1, .int .i64 65536, .slice wa 0 wc] 174)).setCell ⟨P, 0, none⟩ (.int .i64 0)).setCell ⟨P, 1, none⟩ (.int .i64 65536)).setCell ⟨P, 2, none⟩ (.slice none 0 0)).setCell ⟨R, 5, none⟩ (.int .i64 1)) R (f.set 5 (.int .i64 1)) := (((HR2.out.other n0).other n0).other n0).set (by have := HF.out; omega) _
  refine (tidy62 R P pa 65536 _ _ hP3 hR3 (by simp; exact HF.out) (by rw [List.getElem?_set_ne (by omega)]; exact H4.out) (by rw [List.getElem?_set_self (by have := HF.out; omega)]) HN.out).mono ?_
  rintro e w2 ⟨rfl, ho, hc⟩
  have HO : Hid (Onl (fun b => b = R ∨ b = P) w w2) := (((((Onl.of_below HB.out).alloc _).set (b := P) (.inr rfl)).set (b := P) (.inr rfl)).set (b := P) (.inr rfl) |>.set (b := R) (.inl rfl)).trans ho
  have HC : Hid (Cl w2 R ((f.set 4 (.slice (some ⟨P, 0, none⟩) 0 pa)).set 5 (.int .i64 0))) := by
    have e : ((f.set 5 (.int .i64 1)).set 4 (.slice (some ⟨P, 0, none⟩) 0 pa)).set 5 (.int .i64 0) = (f.set 4 (.slice (some ⟨P, 0, none⟩) 0 pa)).set 5 (.int .i64 0) := by
      rw [List.set_comm _ _ (by omega : 5 ≠ 4), List.set_set]
    rw [e] at hc
    exact hc
  clear ho hc hP3 hR3
  go_wp2
  go_ret
  exact ⟨rfl, HO.out, HC.out⟩
end
section
open Go.RowKit Go.Shelf
set_option maxRecDepth 20000 in
set_option maxHeartbeats 2000000 in
theorem back44 (R C P pa ca : Nat) (wa : Option Addr) (wc : Nat) (y q : Nat) (at_ : Int) (f : List Value) (w : World) (hC : Cl w C [.slice (some ⟨y, 0, none⟩) 1 1, .slice (some ⟨q, 0, none⟩) 1 1, .int .i64 65536, .int .i64 0, .int .i64 0, .int .i64 at_, .int .i64 (-1)]) (hP : Cl w P [.int .i64 1, .int .i64 65536, .slice wa 0 wc]) (hR : Cl w R f) (hf : f.length = 13) (h3 : f[3]? = some (.slice (some ⟨C, 0, none⟩) 1 ca)) (h4 : f[4]? = some (.slice (some ⟨P, 0, none⟩) 1 pa)) (h5 : f[5]? = some (.int .i64 0)) (hne : R ≠ P) : Calls Tryz.prog 102 #[.pointer (some ⟨R, 0, none⟩), .int .i64 0] w fun e w' => e = .returned (.tuple #[]) ∧ Onl (fun b => b = R ∨ b = P) w w' ∧ Cl w' R (((((f.set 4 (.slice (some ⟨P, 0, none⟩) 0 pa)).set 5 (.int .i64 0)).set 3 (.slice (some ⟨C, 0, none⟩) 0 ca)).set 9 (.int .i64 1)).set 10 (.int .i64 0)) := by
  have hI : Hid (Calls Tryz.prog 98 #[.pointer (some ⟨R, 0, none⟩)] w fun e w' => e = .returned (.pointer (some ⟨C, 0, none⟩)) ∧ ∃ n, w' = w.drewN n) := innermost40 R C ca w (hR.cell h3)
  have HE : Hid (∀ W, Below w.heap.size w W → Calls Tryz.prog 137 #[.pointer (some ⟨R, 4, none⟩), .int .i64 1, .int .i64 65536, .int .i64 0] W fun e w' => e = .returned (.bool true) ∧ Onl (fun b => b = R ∨ b = P) W w' ∧ Cl w' R ((f.set 4 (.slice (some ⟨P, 0, none⟩) 0 pa)).set 5 (.int .i64 0))) := fun W hW => end55 R P pa wa wc f W (hP.below hW) (hR.below hW) hf h4 h5 hne
  have HC : Hid (Cl w C [.slice (some ⟨y, 0, none⟩) 1 1, .slice (some ⟨q, 0, none⟩) 1 1, .int .i64 65536, .int .i64 0, .int .i64 0, .int .i64 at_, .int .i64 (-1)]) := hC
  have HF : Hid (f.length = 13) := hf
  have H3 : Hid (f[3]? = some (.slice (some ⟨C, 0, none⟩) 1 ca)) := h3
  clear hC hP hR h3 h4 h5 hf hne
  go_enter Tryz.func102, Tryz.ntmps102
  go_wp2_with fail
  refine hI.out.mono ?_
  rintro e w1 ⟨rfl, n1, hw1⟩
  have hb1 : Below w.heap.size w w1 := by rw [hw1]; exact below_drewN (Below.refl _ _) n1
  have HB1 : Hid (Below w.heap.size w w1) := hb1
  have hC1 := HC.out.below hb1
  have k0 := hC1.cell (j := 0) rfl
  have k1 := hC1.cell (j := 1) rfl
  have k2 := hC1.cell (j := 2) rfl
  have k3 := hC1.cell (j := 3) rfl
  have k4 := hC1.cell (j := 4) rfl
  have k5 := hC1.cell (j := 5) rfl
  have k6 := hC1.cell (j := 6) rfl
  clear hw1 hb1 hC1
  go_wp2
  go_region_with (first | (go_at_call 137; refine (HE.out _ (by first | exact (HB1.out.alloc HB1.out.size _).drew | exact (HB1.out.alloc HB1.out.size _))).mono ?_; rintro e w2 ⟨rfl, ho, hc⟩; have HO : Hid (Onl (fun b => b = R ∨ b = P) w w2) := (Onl.of_below (by first | exact (HB1.out.alloc HB1.out.size _).drew | exact (HB1.out.alloc HB1.out.size _))).trans ho; have HC2 : Hid (Cl w2 R ((f.set 4 (.slice (some ⟨P, 0, none⟩) 0 pa)).set 5 (.int .i64 0))) := hc; clear ho hc))
  all_goals (
    have H3' : ((f.set 4 (.slice (some ⟨P, 0, none⟩) 0 pa)).set 5 (.int .i64 0))[3]? = some (.slice (some ⟨C, 0, none⟩) 1 ca) := by
      rw [List.getElem?_set_ne (by omega), List.getElem?_set_ne (by omega)]
      exact H3.out
    have r3 := HC2.out.cell H3'
    have z3 := HC2.out.fz 3
    clear H3'
    go_wp2
    go_region
    have HC3 : Hid (Cl ((w2.setCell ⟨R, 3, none⟩ (.slice (some ⟨C, 0, none⟩) 0 ca)).drew) R (((f.set 4 (.slice (some ⟨P, 0, none⟩) 0 pa)).set 5 (.int .i64 0)).set 3 (.slice (some ⟨C, 0, none⟩) 0 ca))) := (HC2.out.set (by have := HF.out; simp; omega) _).drew
    have HO3 : Hid (Onl (fun b => b = R ∨ b = P) w ((w2.setCell ⟨R, 3, none⟩ (.slice (some ⟨C, 0, none⟩) 0 ca)).drew)) := (HO.out.set (b := R) (.inl rfl)).trans (Onl.of_below (Below.refl _ _).drew)
    clear r3 z3 HC2 HO
    generalize (w2.setCell ⟨R, 3, none⟩ (.slice (some ⟨C, 0, none⟩) 0 ca)).drew = w3 at *
    have r3 := HC3.out.cell (j := 3) (v := .slice (some ⟨C, 0, none⟩) 0 ca) (by rw [List.getElem?_set_self (by have := HF.out; simp; omega)])
    go_wp2_with fail
    refine (end36 R 1 0 _ w3 HC3.out (by simp; exact HF.out)).mono ?_
    rintro e w4 ⟨rfl, rfl⟩
    go_wp2
    go_returns
    exact ⟨rfl, (HO3.out.set (b := R) (.inl rfl)).set (b := R) (.inl rfl), (HC3.out.set (by have := HF.out; simp; omega) _).set (by have := HF.out; simp; omega) _⟩)
end
end Go.Proofs.YtdppoblbenbafaaGreatDoor
