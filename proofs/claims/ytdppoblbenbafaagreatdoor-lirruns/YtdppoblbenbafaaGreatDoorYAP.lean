/- What an instruction does: those that touch registers alone. A region whose operations are quiet but for the last one, for which all others are waited: one walk of the lexical order serves every order. An operation is done, whichever. -/
import Derived.Test.YtdppoblbenbafaaGreatDoorYAO
import Derived.Test.YtdppoblbenbafaaGreatDoorO1
import Derived.Deep.QuietTactic
namespace Go.Proofs.YtdppoblbenbafaaGreatDoor
section
open Go.RowKit Go.Shelf
set_option maxRecDepth 20000
set_option maxHeartbeats 2000000
theorem look53f (W : World) (r i : Nat) (s : ByteArray) (v : Value) (hr : W.heap[r]? = some (.map oes 14)) (hf : Instr.findNow .string (.string s) oes.toList 0 = some (some (i, v))) : (Instr.lookup 56 (.map (some r)) (.string s) false).run Tryz.prog W = .ok v W := by
  unfold Instr.lookup
  simp [Sem.run_bind, run_underlying und30, run_getObj_map W r oes 14 hr, check9, Go.MapKept.run_findKey Tryz.underlying9 hf]
theorem sd (W : World) (p : Addr) (v : Value) (k : Nat) : (W.drewN k).setCell p v = (W.setCell p v).drewN k := rfl
theorem do_const22g (R C ca n q m rc x o j : Nat) (d : Nat) (v u : Int) (w : World) (h3 : w.cell? ⟨R, 3, none⟩ = some (.slice (some ⟨C, 0, none⟩) (n + 1) ca)) (hn : n < 1000000) (c1 : w.cell? ⟨C, n * 7 + 1, none⟩ = some (.slice (some ⟨q, 0, none⟩) m rc)) (c5 : w.cell? ⟨C, n * 7 + 5, none⟩ = some (.int .i64 j)) (z5 : w.frozen? ⟨C, n * 7 + 5, none⟩ = false) (hj : j < 1000000) (i0 : w.cell? ⟨x, o, none⟩ = some (.int .i64 1)) (i1 : w.cell? ⟨x, o + 1, none⟩ = some (.int .i64 d)) (i4 : w.cell? ⟨x, o + 4, none⟩ = some (.int .i64 v)) (hd : d < m) (qd : w.cell? ⟨q, d, none⟩ = some (.int .i64 u)) (zd : w.frozen? ⟨q, d, none⟩ = false) (nxC : x ≠ C) (nqC : q ≠ C) (nRC : R ≠ C) : Calls Tryz.prog 72 #[.pointer (some ⟨R, 0, none⟩), .pointer (some ⟨x, o, none⟩)] w fun e w' => e = .returned (.tuple #[]) ∧ ∃ k, w' = ((w.setCell ⟨C, n * 7 + 5, none⟩ (.int .i64 ((j : Int) + 1))).setCell ⟨q, d, none⟩ (.int .i64 v)).drewN k := by
  have hI : Hid (Calls Tryz.prog 98 #[.pointer (some ⟨R, 0, none⟩)] w fun e w' => e = .returned (.pointer (some ⟨C, n * 7, none⟩)) ∧ ∃ k, w' = w.drewN k) := innermost41g R C ca n w h3 hn
  have ej : IntKind.i64.wrap ((j : Int) + 1) = (j : Int) + 1 := by exact wrapI _ (by omega) (by omega)
  have e1 : ¬ x = C := nxC
  have e2 : ¬ C = x := fun e => nxC e.symm
  have e3 : ¬ q = C := nqC
  have e4 : ¬ C = q := fun e => nqC e.symm
  have e5 : ¬ R = C := nRC
  have e6 : ¬ C = R := fun e => nRC e.symm
  have c1' := dcell c1
  have c5' := dcell c5
  have i0' := dcell i0
  have i1' := dcell i1
  have i4' := dcell i4
  have qd' := dcell qd
  have z5' : ∀ k, (w.drewN k).frozen? ⟨C, n * 7 + 5, none⟩ = false := fun _ => z5
  have zd' : ∀ k, (w.drewN k).frozen? ⟨q, d, none⟩ = false := fun _ => zd
  clear h3 c1 c5 i0 i1 i4 qd z5 zd nxC nqC nRC
  go_enter Tryz.func72, Tryz.ntmps72
  go_wp2_with fail
  refine hI.out.mono ?_
  rintro e w1 ⟨rfl, n1, rfl⟩
  go_wp2
  go_region
  go_wp2
  go_returns
  exact ⟨rfl, n1 + 1, rfl⟩
theorem do_move22g (R C ca n q m rc x o j : Nat) (d a : Nat) (v u : Int) (w : World) (h3 : w.cell? ⟨R, 3, none⟩ = some (.slice (some ⟨C, 0, none⟩) (n + 1) ca)) (hn : n < 1000000) (c1 : w.cell? ⟨C, n * 7 + 1, none⟩ = some (.slice (some ⟨q, 0, none⟩) m rc)) (c5 : w.cell? ⟨C, n * 7 + 5, none⟩ = some (.int .i64 j)) (z5 : w.frozen? ⟨C, n * 7 + 5, none⟩ = false) (hj : j < 1000000) (i0 : w.cell? ⟨x, o, none⟩ = some (.int .i64 2)) (i1 : w.cell? ⟨x, o + 1, none⟩ = some (.int .i64 d)) (i2 : w.cell? ⟨x, o + 2, none⟩ = some (.int .i64 a)) (hd : d < m) (qd : w.cell? ⟨q, d, none⟩ = some (.int .i64 u)) (zd : w.frozen? ⟨q, d, none⟩ = false) (ha : a < m) (qa : w.cell? ⟨q, a, none⟩ = some (.int .i64 v)) (nxC : x ≠ C) (nqC : q ≠ C) (nRC : R ≠ C) : Calls Tryz.prog 72 #[.pointer (some ⟨R, 0, none⟩), .pointer (some ⟨x, o, none⟩)] w fun e w' => e = .returned (.tuple #[]) ∧ ∃ k, w' = ((w.setCell ⟨C, n * 7 + 5, none⟩ (.int .i64 ((j : Int) + 1))).setCell ⟨q, d, none⟩ (.int .i64 v)).drewN k := by
  have hI : Hid (Calls Tryz.prog 98 #[.pointer (some ⟨R, 0, none⟩)] w fun e w' => e = .returned (.pointer (some ⟨C, n * 7, none⟩)) ∧ ∃ k, w' = w.drewN k) := innermost41g R C ca n w h3 hn
  have ej : IntKind.i64.wrap ((j : Int) + 1) = (j : Int) + 1 := by exact wrapI _ (by omega) (by omega)
  have e1 : ¬ x = C := nxC
  have e2 : ¬ C = x := fun e => nxC e.symm
  have e3 : ¬ q = C := nqC
  have e4 : ¬ C = q := fun e => nqC e.symm
  have e5 : ¬ R = C := nRC
  have e6 : ¬ C = R := fun e => nRC e.symm
  have c1' := dcell c1
  have c5' := dcell c5
  have i0' := dcell i0
  have i1' := dcell i1
  have i2' := dcell i2
  have qd' := dcell qd
  have qa' := dcell qa
  have z5' : ∀ k, (w.drewN k).frozen? ⟨C, n * 7 + 5, none⟩ = false := fun _ => z5
  have zd' : ∀ k, (w.drewN k).frozen? ⟨q, d, none⟩ = false := fun _ => zd
  clear h3 c1 c5 i0 i1 i2 qd qa z5 zd nxC nqC nRC
  go_enter Tryz.func72, Tryz.ntmps72
  go_wp2_with fail
  refine hI.out.mono ?_
  rintro e w1 ⟨rfl, n1, rfl⟩
  go_wp2
  go_region
  go_wp2
  go_returns
  exact ⟨rfl, n1 + 1, rfl⟩
theorem do_frame22g (R C ca n q m rc x o j : Nat) (d : Nat) (fr nn u : Int) (w : World) (h3 : w.cell? ⟨R, 3, none⟩ = some (.slice (some ⟨C, 0, none⟩) (n + 1) ca)) (hn : n < 1000000) (c1 : w.cell? ⟨C, n * 7 + 1, none⟩ = some (.slice (some ⟨q, 0, none⟩) m rc)) (c5 : w.cell? ⟨C, n * 7 + 5, none⟩ = some (.int .i64 j)) (z5 : w.frozen? ⟨C, n * 7 + 5, none⟩ = false) (hj : j < 1000000) (i0 : w.cell? ⟨x, o, none⟩ = some (.int .i64 6)) (c2 : w.cell? ⟨C, n * 7 + 2, none⟩ = some (.int .i64 fr)) (i1 : w.cell? ⟨x, o + 1, none⟩ = some (.int .i64 d)) (i4 : w.cell? ⟨x, o + 4, none⟩ = some (.int .i64 nn)) (hd : d < m) (qd : w.cell? ⟨q, d, none⟩ = some (.int .i64 u)) (zd : w.frozen? ⟨q, d, none⟩ = false) (nxC : x ≠ C) (nqC : q ≠ C) (nRC : R ≠ C) : Calls Tryz.prog 72 #[.pointer (some ⟨R, 0, none⟩), .pointer (some ⟨x, o, none⟩)] w fun e w' => e = .returned (.tuple #[]) ∧ ∃ k, w' = ((w.setCell ⟨C, n * 7 + 5, none⟩ (.int .i64 ((j : Int) + 1))).setCell ⟨q, d, none⟩ (.int .i64 (wrap64 (fr + wrap64 (8 * nn))))).drewN k := by
  have hI : Hid (Calls Tryz.prog 98 #[.pointer (some ⟨R, 0, none⟩)] w fun e w' => e = .returned (.pointer (some ⟨C, n * 7, none⟩)) ∧ ∃ k, w' = w.drewN k) := innermost41g R C ca n w h3 hn
  have ej : IntKind.i64.wrap ((j : Int) + 1) = (j : Int) + 1 := by exact wrapI _ (by omega) (by omega)
  have e1 : ¬ x = C := nxC
  have e2 : ¬ C = x := fun e => nxC e.symm
  have e3 : ¬ q = C := nqC
  have e4 : ¬ C = q := fun e => nqC e.symm
  have e5 : ¬ R = C := nRC
  have e6 : ¬ C = R := fun e => nRC e.symm
  have c1' := dcell c1
  have c5' := dcell c5
  have i0' := dcell i0
  have i1' := dcell i1
  have i4' := dcell i4
  have qd' := dcell qd
  have c2' := dcell c2
  have z5' : ∀ k, (w.drewN k).frozen? ⟨C, n * 7 + 5, none⟩ = false := fun _ => z5
  have zd' : ∀ k, (w.drewN k).frozen? ⟨q, d, none⟩ = false := fun _ => zd
  clear h3 c1 c5 i0 i1 i4 qd c2 z5 zd nxC nqC nRC
  go_enter Tryz.func72, Tryz.ntmps72
  go_wp2_with fail
  refine hI.out.mono ?_
  rintro e w1 ⟨rfl, n1, rfl⟩
  go_wp2
  go_region
  go_wp2
  go_returns
  exact ⟨rfl, n1 + 1, rfl⟩
theorem do_jump22g (R C ca n q m rc x o j : Nat) (b0 t : Int) (w : World) (h3 : w.cell? ⟨R, 3, none⟩ = some (.slice (some ⟨C, 0, none⟩) (n + 1) ca)) (hn : n < 1000000) (c1 : w.cell? ⟨C, n * 7 + 1, none⟩ = some (.slice (some ⟨q, 0, none⟩) m rc)) (c5 : w.cell? ⟨C, n * 7 + 5, none⟩ = some (.int .i64 j)) (z5 : w.frozen? ⟨C, n * 7 + 5, none⟩ = false) (hj : j < 1000000) (i0 : w.cell? ⟨x, o, none⟩ = some (.int .i64 8)) (i7 : w.cell? ⟨x, o + 7, none⟩ = some (.int .i64 t)) (c4 : w.cell? ⟨C, n * 7 + 4, none⟩ = some (.int .i64 b0)) (z4 : w.frozen? ⟨C, n * 7 + 4, none⟩ = false) (nxC : x ≠ C) (nqC : q ≠ C) (nRC : R ≠ C) : Calls Tryz.prog 72 #[.pointer (some ⟨R, 0, none⟩), .pointer (some ⟨x, o, none⟩)] w fun e w' => e = .returned (.tuple #[]) ∧ ∃ k, w' = (((w.setCell ⟨C, n * 7 + 5, none⟩ (.int .i64 ((j : Int) + 1))).setCell ⟨C, n * 7 + 4, none⟩ (.int .i64 t)).setCell ⟨C, n * 7 + 5, none⟩ (.int .i64 0)).drewN k := by
  have hI : Hid (Calls Tryz.prog 98 #[.pointer (some ⟨R, 0, none⟩)] w fun e w' => e = .returned (.pointer (some ⟨C, n * 7, none⟩)) ∧ ∃ k, w' = w.drewN k) := innermost41g R C ca n w h3 hn
  have ej : IntKind.i64.wrap ((j : Int) + 1) = (j : Int) + 1 := by exact wrapI _ (by omega) (by omega)
  have e1 : ¬ x = C := nxC
  have e2 : ¬ C = x := fun e => nxC e.symm
  have e3 : ¬ q = C := nqC
  have e4 : ¬ C = q := fun e => nqC e.symm
  have e5 : ¬ R = C := nRC
  have e6 : ¬ C = R := fun e => nRC e.symm
  have c1' := dcell c1
  have c5' := dcell c5
  have i0' := dcell i0
  have i7' := dcell i7
  have c4' := dcell c4
  have z5' : ∀ k, (w.drewN k).frozen? ⟨C, n * 7 + 5, none⟩ = false := fun _ => z5
  have z4' : ∀ k, (w.drewN k).frozen? ⟨C, n * 7 + 4, none⟩ = false := fun _ => z4
  clear h3 c1 c5 i0 i7 c4 z5 z4 nxC nqC nRC
  go_enter Tryz.func72, Tryz.ntmps72
  go_wp2_with fail
  refine hI.out.mono ?_
  rintro e w1 ⟨rfl, n1, rfl⟩
  go_wp2
  go_returns
  exact ⟨rfl, n1, rfl⟩
theorem do_no22g (R C ca n q m rc x o j : Nat) (a : Nat) (b0 t el v : Int) (w : World) (h3 : w.cell? ⟨R, 3, none⟩ = some (.slice (some ⟨C, 0, none⟩) (n + 1) ca)) (hn : n < 1000000) (c1 : w.cell? ⟨C, n * 7 + 1, none⟩ = some (.slice (some ⟨q, 0, none⟩) m rc)) (c5 : w.cell? ⟨C, n * 7 + 5, none⟩ = some (.int .i64 j)) (z5 : w.frozen? ⟨C, n * 7 + 5, none⟩ = false) (hj : j < 1000000) (i0 : w.cell? ⟨x, o, none⟩ = some (.int .i64 9)) (i2 : w.cell? ⟨x, o + 2, none⟩ = some (.int .i64 a)) (i7 : w.cell? ⟨x, o + 7, none⟩ = some (.int .i64 t)) (i8 : w.cell? ⟨x, o + 8, none⟩ = some (.int .i64 el)) (c4 : w.cell? ⟨C, n * 7 + 4, none⟩ = some (.int .i64 b0)) (z4 : w.frozen? ⟨C, n * 7 + 4, none⟩ = false) (ha : a < m) (qa : w.cell? ⟨q, a, none⟩ = some (.int .i64 v)) (hv : v = 0) (nxC : x ≠ C) (nqC : q ≠ C) (nRC : R ≠ C) : Calls Tryz.prog 72 #[.pointer (some ⟨R, 0, none⟩), .pointer (some ⟨x, o, none⟩)] w fun e w' => e = .returned (.tuple #[]) ∧ ∃ k, w' = (((w.setCell ⟨C, n * 7 + 5, none⟩ (.int .i64 ((j : Int) + 1))).setCell ⟨C, n * 7 + 4, none⟩ (.int .i64 el)).setCell ⟨C, n * 7 + 5, none⟩ (.int .i64 0)).drewN k := by
  have hI : Hid (Calls Tryz.prog 98 #[.pointer (some ⟨R, 0, none⟩)] w fun e w' => e = .returned (.pointer (some ⟨C, n * 7, none⟩)) ∧ ∃ k, w' = w.drewN k) := innermost41g R C ca n w h3 hn
  have ej : IntKind.i64.wrap ((j : Int) + 1) = (j : Int) + 1 := by exact wrapI _ (by omega) (by omega)
  have e1 : ¬ x = C := nxC
  have e2 : ¬ C = x := fun e => nxC e.symm
  have e3 : ¬ q = C := nqC
  have e4 : ¬ C = q := fun e => nqC e.symm
  have e5 : ¬ R = C := nRC
  have e6 : ¬ C = R := fun e => nRC e.symm
  subst hv
  have c1' := dcell c1
  have c5' := dcell c5
  have i0' := dcell i0
  have i2' := dcell i2
  have i7' := dcell i7
  have i8' := dcell i8
  have c4' := dcell c4
  have qa' := dcell qa
  have z5' : ∀ k, (w.drewN k).frozen? ⟨C, n * 7 + 5, none⟩ = false := fun _ => z5
  have z4' : ∀ k, (w.drewN k).frozen? ⟨C, n * 7 + 4, none⟩ = false := fun _ => z4
  clear h3 c1 c5 i0 i2 i7 i8 c4 qa z5 z4 nxC nqC nRC
  go_enter Tryz.func72, Tryz.ntmps72
  go_wp2_with fail
  refine hI.out.mono ?_
  rintro e w1 ⟨rfl, n1, rfl⟩
  go_wp2
  go_quiet (fail)
  go_wp2
  go_returns
  exact ⟨rfl, n1 + nq, by simp only [sd, World.drewN_drewN]⟩
theorem do_yes22g (R C ca n q m rc x o j : Nat) (a : Nat) (b0 t el v : Int) (w : World) (h3 : w.cell? ⟨R, 3, none⟩ = some (.slice (some ⟨C, 0, none⟩) (n + 1) ca)) (hn : n < 1000000) (c1 : w.cell? ⟨C, n * 7 + 1, none⟩ = some (.slice (some ⟨q, 0, none⟩) m rc)) (c5 : w.cell? ⟨C, n * 7 + 5, none⟩ = some (.int .i64 j)) (z5 : w.frozen? ⟨C, n * 7 + 5, none⟩ = false) (hj : j < 1000000) (i0 : w.cell? ⟨x, o, none⟩ = some (.int .i64 9)) (i2 : w.cell? ⟨x, o + 2, none⟩ = some (.int .i64 a)) (i7 : w.cell? ⟨x, o + 7, none⟩ = some (.int .i64 t)) (i8 : w.cell? ⟨x, o + 8, none⟩ = some (.int .i64 el)) (c4 : w.cell? ⟨C, n * 7 + 4, none⟩ = some (.int .i64 b0)) (z4 : w.frozen? ⟨C, n * 7 + 4, none⟩ = false) (ha : a < m) (qa : w.cell? ⟨q, a, none⟩ = some (.int .i64 v)) (hv : ¬ v = 0) (nxC : x ≠ C) (nqC : q ≠ C) (nRC : R ≠ C) : Calls Tryz.prog 72 #[.pointer (some ⟨R, 0, none⟩), .pointer (some ⟨x, o, none⟩)] w fun e w' => e = .returned (.tuple #[]) ∧ ∃ k, w' = ((((w.setCell ⟨C, n * 7 + 5, none⟩ (.int .i64 ((j : Int) + 1))).setCell ⟨C, n * 7 + 4, none⟩ (.int .i64 el)).setCell ⟨C, n * 7 + 5, none⟩ (.int .i64 0)).setCell ⟨C, n * 7 + 4, none⟩ (.int .i64 t)).drewN k := by
  have hI : Hid (Calls Tryz.prog 98 #[.pointer (some ⟨R, 0, none⟩)] w fun e w' => e = .returned (.pointer (some ⟨C, n * 7, none⟩)) ∧ ∃ k, w' = w.drewN k) := innermost41g R C ca n w h3 hn
  have ej : IntKind.i64.wrap ((j : Int) + 1) = (j : Int) + 1 := by exact wrapI _ (by omega) (by omega)
  have e1 : ¬ x = C := nxC
  have e2 : ¬ C = x := fun e => nxC e.symm
  have e3 : ¬ q = C := nqC
  have e4 : ¬ C = q := fun e => nqC e.symm
  have e5 : ¬ R = C := nRC
  have e6 : ¬ C = R := fun e => nRC e.symm
  have c1' := dcell c1
  have c5' := dcell c5
  have i0' := dcell i0
  have i2' := dcell i2
  have i7' := dcell i7
  have i8' := dcell i8
  have c4' := dcell c4
  have qa' := dcell qa
  have z5' : ∀ k, (w.drewN k).frozen? ⟨C, n * 7 + 5, none⟩ = false := fun _ => z5
  have z4' : ∀ k, (w.drewN k).frozen? ⟨C, n * 7 + 4, none⟩ = false := fun _ => z4
  clear h3 c1 c5 i0 i2 i7 i8 c4 qa z5 z4 nxC nqC nRC
  go_enter Tryz.func72, Tryz.ntmps72
  go_wp2_with fail
  refine hI.out.mono ?_
  rintro e w1 ⟨rfl, n1, rfl⟩
  go_wp2
  go_quiet (fail)
  go_wp2
  go_returns
  exact ⟨rfl, n1 + nq, by simp only [sd, World.drewN_drewN]⟩
end
section
open Go
section
variable {P : Program} {ops : Array Oper} {md : Region.Mode} {C : World → Prop}

/-- Each operation but the last is waited for by a later one. -/
def lastB (md : Region.Mode) (ops : Array Oper) (T : Nat) : Bool := (List.range T).all fun i => (List.range (T + 1)).any fun j => decide (i < j) && ((ops[j]?).map (fun o => o.after.any fun e => Region.binds md e && e.on == i)).getD false

/-- What is listed has all listed that it waits for. -/
def Closed (md : Region.Mode) (ops : Array Oper) (listed : Array Bool) : Prop := listed.size = ops.size ∧ ∀ j o, ops[j]? = some o → listed.getD j true = true → ∀ e ∈ o.after, Region.binds md e = true → listed.getD e.on false = true

theorem Closed.set {listed : Array Bool} (h : Closed md ops listed) {j : Nat} (hj : j ∈ Region.ready md ops listed) : Closed md ops (listed.setIfInBounds j true) := by
  obtain ⟨h1, h2⟩ := h
  obtain ⟨hjun, oj, hoj, hall⟩ := mem_ready.1 hj
  refine ⟨by simpa using h1, fun k o hk hl e he hb => getD_set_true ?_⟩
  by_cases hjk : j = k
  · subst hjk
    rw [hoj] at hk
    cases hk
    exact hall e he hb
  · rw [getD_set_ne true hjk] at hl
    exact h2 k o hk hl e he hb

theorem closed_none : Closed md ops (Array.replicate ops.size false) := by
  refine ⟨by simp, fun j o hj hl => ?_⟩
  have : j < ops.size := by
    rcases Nat.lt_or_ge j ops.size with h | h
    · exact h
    · rw [Array.getElem?_eq_none h] at hj; cases hj
  simp [Array.getD, this] at hl

/-- Where the last may come up all others have. -/
theorem Closed.all {listed : Array Bool} {T : Nat} (h : Closed md ops listed) (hT : lastB md ops T = true) (hr : T ∈ Region.ready md ops listed) : ∀ d i, i + d + 1 = T → listed.getD i false = true := by
  obtain ⟨hun, oT, hoT, hall⟩ := mem_ready.1 hr
  have hlt : T < ops.size := by
    rcases Nat.lt_or_ge T ops.size with h | h
    · exact h
    · rw [Array.getElem?_eq_none h] at hoT; cases hoT
  intro d
  induction d using Nat.strongRecOn with
  | ind d ih =>
    intro i hi
    have h1 := List.all_eq_true.1 hT i (List.mem_range.2 (by omega))
    obtain ⟨j, hj, h2⟩ := List.any_eq_true.1 h1
    simp only [Bool.and_eq_true, decide_eq_true_eq] at h2
    obtain ⟨hij, h2⟩ := h2
    have hjT := List.mem_range.1 hj
    cases ho : ops[j]? with
    | none => rw [ho] at h2; simp at h2
    | some o =>
      rw [ho] at h2
      simp only [Option.map_some, Option.getD_some] at h2
      rw [Array.any_eq_true'] at h2
      obtain ⟨e, he, h3⟩ := h2
      simp only [Bool.and_eq_true, beq_iff_eq] at h3
      obtain ⟨hb, rfl⟩ := h3
      by_cases hjT' : j = T
      · subst hjT'
        rw [hoT] at ho
        cases ho
        exact hall e he hb
      · have := ih (T - j - 1) (by omega) j (by omega)
        have hsz := h.1
        have hjl : j < listed.size := by omega
        refine h.2 j o ho ?_ e he hb
        simp [Array.getD, hjl] at this ⊢
        exact this

/-- Whatever order is picked from here on, number T being the last one. -/
def wpAnyT (P : Program) (md : Region.Mode) (ops : Array Oper) (C : World → Prop) (T : Nat) (R : Act → Prop) : Nat → Array Bool → Act → Prop
  | 0, _, _ => False
  | fuel + 1, listed, a =>
    Region.ready md ops listed ≠ [] ∧
    ∀ i ∈ Region.ready md ops listed, (i = T → Region.ready md ops (listed.setIfInBounds T true) = [] ∧ R a) ∧ (i ≠ T → qOp P ops C i (wpAnyT P md ops C T R fuel (listed.setIfInBounds i true)) a)

theorem wpAny_of_T {T : Nat} {R : Act → Prop} {Q' : Exit → Act → World → Prop} (hR : ∀ a w, C w → R a → wpOp P ops Q' T (fun a' w' => Q' .normal a' w') a w) : ∀ (fuel : Nat) (listed : Array Bool) (a : Act) (w : World), C w →
    wpAnyT P md ops C T R fuel listed a → wpAny P md ops Q' fuel listed a w
  | 0, _, _, _, _, h => h.elim
  | fuel + 1, listed, a, w, hw, h => ⟨fun h0 => absurd h0 h.1, fun i hi => by
      by_cases hi' : i = T
      · subst hi'
        obtain ⟨hn, hRa⟩ := (h.2 i hi).1 rfl
        refine wpOp_mono (fun a' w' hq => ?_) (hR a w hw hRa)
        cases fuel with
        | zero => exact ⟨hn, hq⟩
        | succ n => exact ⟨fun _ => hq, fun j hj => by rw [hn] at hj; cases hj⟩
      · exact wpOp_of_qOp hw (fun a' w' hw' => wpAny_of_T hR fuel _ a' w' hw') ((h.2 i hi).2 hi')⟩

theorem wpAnyT_first {T : Nat} {R : Act → Prop} (hT : lastB md ops T = true) {i : Nat} {oi : Oper} {v : Value} (hi : ops[i]? = some oi) (hiT : i < T) (hsel : ∀ (j : Nat) (o : Oper) cs b, ops[j]? = some o → o.op ≠ .select cs b) :
    ∀ (fuel : Nat) (listed : Array Bool) (a : Act), Closed md ops listed →
      (∀ j oj, ops[j]? = some oj → j ≠ i → listed.getD j true = false → (∀ e ∈ oj.after, Region.binds md e = true → e.on ≠ i) → oi.apart ops oj = true) →
      i ∈ Region.ready md ops listed → YieldsIn P ops C oi v a →
      wpAnyT P md ops C T R fuel (listed.setIfInBounds i true) (a.put oi.dst v) → wpAnyT P md ops C T R (fuel + 1) listed a := by
  intro fuel
  induction fuel with
  | zero => intro listed a _ _ _ _ H; exact H.elim
  | succ fuel ih =>
    intro listed a hC hfree hr hy H
    refine ⟨fun h => (by rw [h] at hr; cases hr), fun j hj => ⟨fun hjT => ?_, fun hjT => ?_⟩⟩
    · subst hjT
      have h1 := hC.all hT hj (j - i - 1) i (by omega)
      have h0 := (mem_ready.1 hr).1
      have hsz := hC.1
      rcases Nat.lt_or_ge i listed.size with h' | h'
      · simp [Array.getD, h'] at h0 h1
        rw [h0] at h1
        cases h1
      · simp [Array.getD, Nat.not_lt.2 h'] at h1
    · by_cases hji : j = i
      · subst hji; exact hy.qOp hi H
      · have h1 := (H.2 j (ready_mono hj hji)).2 hjT
        obtain ⟨hjun, oj, hoj, hall⟩ := mem_ready.1 hj
        have hnot : ∀ e ∈ oj.after, Region.binds md e = true → e.on ≠ i := fun e he hb heq => by
          have h1 := hall e he hb
          have h0 := (mem_ready.1 hr).1
          rw [heq] at h1
          rcases Nat.lt_or_ge i listed.size with h' | h'
          · simp [h'] at h0 h1; rw [h0] at h1; cases h1
          · simp [Array.getElem?_eq_none h'] at h1
        have h2 := qOp_put hoj (hfree j oj hoj hji hjun hnot) (fun cs b => hsel i oi cs b hi) (fun cs b => hsel j oj cs b hoj) hy h1
        have hfree' : ∀ k ok, ops[k]? = some ok → k ≠ i → (listed.setIfInBounds j true).getD k true = false →
            (∀ e ∈ ok.after, Region.binds md e = true → e.on ≠ i) → oi.apart ops ok = true := fun k ok hk hki hun hno => by
          refine hfree k ok hk hki ?_ hno
          by_cases hjk : j = k
          · subst hjk; exact hjun
          · rw [getD_set_ne true hjk] at hun; exact hun
        refine qOp_mono (fun a' h3 => ih (listed.setIfInBounds j true) a' (hC.set hj) hfree' (ready_mono hr (Ne.symm hji)) h3.1 ?_) h2
        rw [Array.setIfInBounds_comm _ _ hji]
        exact h3.2

/-- The lexical walk up to the last operation. -/
theorem wpAnyT_lex {T : Nat} {R : Act → Prop} (hT : lastB md ops T = true) (hsz : ops.size = T + 1) (hs : Region.noSelect ops = true) : ∀ (l : List Oper) (k : Nat) (listed : Array Bool) (a : Act), (∀ j, j < l.length → l[j]? = ops[k + j]?) → k + l.length = T → Closed md ops listed →
    Region.lexFrom md ops (l.length + 1) k listed = true → wpQuiet P ops C R l a → wpAnyT P md ops C T R (l.length + 1) listed a
  | [], k, listed, a, hl, hk, hC, hB, h => by
    simp only [List.length_nil, Nat.zero_add, Nat.add_zero] at hk hB
    subst hk
    simp only [Region.lexFrom, Bool.and_eq_true] at hB
    obtain ⟨⟨hr, hf⟩, hB'⟩ := hB
    have hr' : k ∈ Region.ready md ops listed := by simpa using hr
    have hB'' : Region.ready md ops (listed.setIfInBounds k true) = [] := by simpa [Region.lexFrom] using hB'
    refine ⟨fun h => (by rw [h] at hr'; cases hr'), fun i hi => ⟨fun _ => ⟨hB'', h⟩, fun hne => ?_⟩⟩
    have h3 := ready_mono hi hne
    rw [hB''] at h3
    cases h3
  | o :: l, k, listed, a, hl, hk, hC, hB, h => by
    have h0 : ops[k]? = some o := by simpa using (hl 0 (by simp)).symm
    rw [show (o :: l).length + 1 = (l.length + 1) + 1 from rfl] at hB ⊢
    rw [Region.lexFrom] at hB
    simp only [Bool.and_eq_true] at hB
    obtain ⟨⟨hr, hf⟩, hB'⟩ := hB
    have hr' : k ∈ Region.ready md ops listed := by simpa using hr
    have hst : qOp P ops C k (wpQuiet P ops C R l) a := by unfold qOp; simp only [h0]; exact h
    obtain ⟨v, hy, hK⟩ := yieldsIn_of_qOp h0 hst
    simp only [List.length_cons] at hk
    exact wpAnyT_first hT h0 (by omega) (Region.noSelect_spec hs) (l.length + 1) listed a hC (Region.free_spec h0 hf) hr' hy
      (wpAnyT_lex hT hsz hs l (k + 1) _ _ (fun j hj => by have := hl (j + 1) (by simpa using hj); simpa [Nat.add_assoc, Nat.add_comm 1 j] using this) (by omega) (hC.set hr') hB' hK)

/-- A region that ends in one operation for which all others are waited: these are walked once, in the order of the text; the last one is run from whatever world of the class. -/
theorem wp_region_last {id : Nat} {Q : Exit → Act → World → Prop} {a : Act} {w : World} {l : List Oper} {o : Oper} (hm : P.follows .mixedOrders = true) (hB : Region.lexB .any (l ++ [o]).toArray = true) (hT : lastB .any (l ++ [o]).toArray l.length = true)
    (h : wpQuiet P (l ++ [o]).toArray (fun w' => ∃ n, w' = w.drewN n) (fun a' => ∀ n, ∀ K : Act → World → Prop, (∀ a w, Q .normal a w → K a w) → if Region.wanted o (yielded (l ++ [o]).toArray a'.tmps) = true then o.wp P a' (w.drewN n) K Q else K (a'.put o.dst undef) (w.drewN n)) l a) : (Code.region id (l ++ [o]).toArray true).wp P Q a w := by
  simp only [Region.lexB, Bool.and_eq_true] at hB
  have hsz : (l ++ [o]).toArray.size = l.length + 1 := by simp
  refine wp_region_any hm (wpAny_of_T (C := fun w' => ∃ n, w' = w.drewN n) (T := l.length) (R := fun a' => ∀ n, ∀ K : Act → World → Prop, (∀ a w, Q .normal a w → K a w) → if Region.wanted o (yielded (l ++ [o]).toArray a'.tmps) = true then o.wp P a' (w.drewN n) K Q else K (a'.put o.dst undef) (w.drewN n)) ?_ _ _ _ _ ⟨1, rfl⟩ ?_)
  · rintro a' _ ⟨n, rfl⟩ hR
    have ho : (l ++ [o]).toArray[l.length]? = some o := by simp
    unfold wpOp
    rw [ho]
    have := hR n (fun a' w' => Q .normal a' w') (fun _ _ h => h)
    revert this
    simp only []
    split
    · exact fun h => .inl h
    · exact fun h => h
  · have h4 := wpAnyT_lex (C := fun w' => ∃ n, w' = w.drewN n) (md := .any) hT hsz hB.1 l 0 (Array.replicate (l ++ [o]).toArray.size false) a (fun j hj => by simp [List.getElem?_append_left hj]) (by omega) closed_none (by rw [hsz] at hB; rw [hsz]; exact hB.2) h
    rw [hsz] at h4 ⊢
    exact h4
/-- The same for a region that is written out. -/
theorem wp_region_last_lit {id : Nat} {Q : Exit → Act → World → Prop} {a : Act} {w : World} {l : List Oper} (hne : l ≠ []) (hm : P.follows .mixedOrders = true) (hB : Region.lexB .any l.toArray = true) (hT : lastB .any l.toArray l.dropLast.length = true)
    (h : wpQuiet P l.toArray (fun w' => ∃ n, w' = w.drewN n) (fun a' => ∀ n, ∀ K : Act → World → Prop, (∀ a w, Q .normal a w → K a w) → if Region.wanted (l.getLast hne) (yielded l.toArray a'.tmps) = true then (l.getLast hne).wp P a' (w.drewN n) K Q else K (a'.put (l.getLast hne).dst undef) (w.drewN n)) l.dropLast a) : (Code.region id l.toArray true).wp P Q a w := by
  have e := List.dropLast_concat_getLast hne
  generalize hl0 : l.dropLast = l0 at *
  generalize ho : l.getLast hne = o at *
  subst e
  exact wp_region_last hm hB hT h
end
end
section
open Go.RowKit Go.Shelf
set_option maxRecDepth 20000
set_option maxHeartbeats 4000000
theorem field73 (a : Value) (W : World) : (Instr.field 83 (.agg #[a]) 0).run Tryz.prog W = .ok a W := by kernel_rfl
/-- What the walk of an operation reads. -/
structure BinF (R C n q m rc x o m2 d a b : Nat) (nm : ByteArray) (va vb u : Int) (fk : Nat) (V : World) : Prop where
  k1 : V.cell? ⟨C, n * 7 + 1, none⟩ = some (.slice (some ⟨q, 0, none⟩) m rc)
  k2 : V.cell? ⟨R, 2, none⟩ = some (.map (some m2))
  k3 : V.cell? ⟨x, o + 1, none⟩ = some (.int .i64 d)
  k4 : V.cell? ⟨x, o + 2, none⟩ = some (.int .i64 a)
  k5 : V.cell? ⟨x, o + 3, none⟩ = some (.int .i64 b)
  k6 : V.cell? ⟨x, o + 5, none⟩ = some (.string nm)
  k7 : V.cell? ⟨q, d, none⟩ = some (.int .i64 u)
  k8 : V.cell? ⟨q, a, none⟩ = some (.int .i64 va)
  k9 : V.cell? ⟨q, b, none⟩ = some (.int .i64 vb)
  k10 : V.frozen? ⟨q, d, none⟩ = false
  k11 : ∀ t, (Instr.lookup 56 (.map (some m2)) (.string nm) false).run Tryz.prog (V.drewN t) = .ok (.agg #[.func (.func fk) #[] #[]]) (V.drewN t)
theorem do_bin22g (R C ca n q m rc x o j m2 d a b fk : Nat) (nm : ByteArray) (va vb v u : Int) (w : World) (h3 : w.cell? ⟨R, 3, none⟩ = some (.slice (some ⟨C, 0, none⟩) (n + 1) ca)) (hn : n < 1000000) (c1 : w.cell? ⟨C, n * 7 + 1, none⟩ = some (.slice (some ⟨q, 0, none⟩) m rc)) (c5 : w.cell? ⟨C, n * 7 + 5, none⟩ = some (.int .i64 j)) (z5 : w.frozen? ⟨C, n * 7 + 5, none⟩ = false) (hj : j < 1000000) (i0 : w.cell? ⟨x, o, none⟩ = some (.int .i64 3)) (r2 : w.cell? ⟨R, 2, none⟩ = some (.map (some m2))) (hm : w.heap[m2]? = some (.map oes 14)) (nmC : m2 ≠ C) (i1 : w.cell? ⟨x, o + 1, none⟩ = some (.int .i64 d)) (i2 : w.cell? ⟨x, o + 2, none⟩ = some (.int .i64 a)) (i3 : w.cell? ⟨x, o + 3, none⟩ = some (.int .i64 b)) (i5 : w.cell? ⟨x, o + 5, none⟩ = some (.string nm)) (hd : d < m) (qd : w.cell? ⟨q, d, none⟩ = some (.int .i64 u)) (zd : w.frozen? ⟨q, d, none⟩ = false) (ha : a < m) (qa : w.cell? ⟨q, a, none⟩ = some (.int .i64 va)) (hb : b < m) (qb : w.cell? ⟨q, b, none⟩ = some (.int .i64 vb)) (hf : ∃ k, Instr.findNow .string (.string nm) oes.toList 0 = some (some (k, .agg #[.func (.func fk) #[] #[]]))) (hcf : ∀ W, (callFunc fk #[.int .i64 va, .int .i64 vb]).run Tryz.prog W = .ok (.enter fk #[.int .i64 va, .int .i64 vb]) W) (hC : ∀ W, Calls Tryz.prog fk #[.int .i64 va, .int .i64 vb] W fun e w' => e = .returned (.int .i64 v) ∧ w' = W) (nxC : x ≠ C) (nqC : q ≠ C) (nRC : R ≠ C) : Calls Tryz.prog 72 #[.pointer (some ⟨R, 0, none⟩), .pointer (some ⟨x, o, none⟩)] w fun e w' => e = .returned (.tuple #[]) ∧ ∃ k, w' = ((w.setCell ⟨C, n * 7 + 5, none⟩ (.int .i64 ((j : Int) + 1))).setCell ⟨q, d, none⟩ (.int .i64 v)).drewN k := by
  have hI : Hid (Calls Tryz.prog 98 #[.pointer (some ⟨R, 0, none⟩)] w fun e w' => e = .returned (.pointer (some ⟨C, n * 7, none⟩)) ∧ ∃ k, w' = w.drewN k) := innermost41g R C ca n w h3 hn
  have ej : IntKind.i64.wrap ((j : Int) + 1) = (j : Int) + 1 := by exact wrapI _ (by omega) (by omega)
  have e1 : ¬ x = C := nxC
  have e2 : ¬ C = x := fun e => nxC e.symm
  have i0' := dcell i0
  have c5' := dcell c5
  have z5' : ∀ k, (w.drewN k).frozen? ⟨C, n * 7 + 5, none⟩ = false := fun _ => z5
  have HV : Hid (∀ n1, BinF R C n q m rc x o m2 d a b nm va vb u fk ((w.drewN n1).setCell ⟨C, n * 7 + 5, none⟩ (.int .i64 ((j : Int) + 1)))) := fun n1 => by
    have ox : ∀ t v, w.cell? ⟨x, t, none⟩ = some v → ((w.drewN n1).setCell ⟨C, n * 7 + 5, none⟩ (.int .i64 ((j : Int) + 1))).cell? ⟨x, t, none⟩ = some v := fun t v h => by rw [World.cell?_of_block ((grown_set (w.drewN n1) C (n * 7 + 5) _).block x (World.block_lt_of_cell? _ _ h) (fun e => nxC (by cases e; rfl)))]; exact h
    have oq : ∀ t v, w.cell? ⟨q, t, none⟩ = some v → ((w.drewN n1).setCell ⟨C, n * 7 + 5, none⟩ (.int .i64 ((j : Int) + 1))).cell? ⟨q, t, none⟩ = some v := fun t v h => by rw [World.cell?_of_block ((grown_set (w.drewN n1) C (n * 7 + 5) _).block q (World.block_lt_of_cell? _ _ h) (fun e => nqC (by cases e; rfl)))]; exact h
    have oR : ∀ t v, w.cell? ⟨R, t, none⟩ = some v → ((w.drewN n1).setCell ⟨C, n * 7 + 5, none⟩ (.int .i64 ((j : Int) + 1))).cell? ⟨R, t, none⟩ = some v := fun t v h => by rw [World.cell?_of_block ((grown_set (w.drewN n1) C (n * 7 + 5) _).block R (World.block_lt_of_cell? _ _ h) (fun e => nRC (by cases e; rfl)))]; exact h
    obtain ⟨kk, hf⟩ := hf
    have hm' : ((w.drewN n1).setCell ⟨C, n * 7 + 5, none⟩ (.int .i64 ((j : Int) + 1))).heap[m2]? = some (.map oes 14) := ((grown_set (w.drewN n1) C (n * 7 + 5) _).block m2 (by exact (Array.getElem?_eq_some_iff.1 hm).1) (fun e => nmC (by cases e; rfl))).trans hm
    have zq : ((w.drewN n1).setCell ⟨C, n * 7 + 5, none⟩ (.int .i64 ((j : Int) + 1))).frozen? ⟨q, d, none⟩ = false := by rw [World.frozen?_of_block ((grown_set (w.drewN n1) C (n * 7 + 5) _).block q (World.block_lt_of_cell? _ _ qd) (fun e => nqC (by cases e; rfl)))]; exact zd
    have c1' : ((w.drewN n1).setCell ⟨C, n * 7 + 5, none⟩ (.int .i64 ((j : Int) + 1))).cell? ⟨C, n * 7 + 1, none⟩ = some (.slice (some ⟨q, 0, none⟩) m rc) := by
      have h := dcell c1 n1
      go_simp
    exact ⟨c1', oR _ _ r2, ox _ _ i1, ox _ _ i2, ox _ _ i3, ox _ _ i5, oq _ _ qd, oq _ _ qa, oq _ _ qb, zq, fun t => look53f _ m2 kk nm _ (by exact hm') hf⟩
  have hfield := field73
  have HC : Hid (∀ W, Calls Tryz.prog fk #[.int .i64 va, .int .i64 vb] W fun e w' => e = .returned (.int .i64 v) ∧ w' = W) := hC
  clear hC hf h3 c1 c5 i0 i1 i2 i3 i5 qd qa qb r2 z5 zd nxC nRC hm nmC
  go_enter Tryz.func72, Tryz.ntmps72
  go_wp2_with fail
  refine hI.out.mono ?_
  rintro e w1 ⟨rfl, n1, rfl⟩
  go_wp2
  obtain ⟨k1, k2, k3, k4, k5, k6, k7, k8, k9, k10, k11⟩ := HV.out n1
  have HE : Hid (∃ V, V = ((w.drewN n1).setCell ⟨C, n * 7 + 5, none⟩ (.int .i64 ((j : Int) + 1)))) := ⟨_, rfl⟩
  clear HV hI
  clear i0' c5' z5' ej e1 e2
  obtain ⟨V, hV⟩ := HE.out
  rw [← hV] at k1 k2 k3 k4 k5 k6 k7 k8 k9 k10 k11 ⊢
  have HVe : Hid (V = ((w.drewN n1).setCell ⟨C, n * 7 + 5, none⟩ (.int .i64 ((j : Int) + 1)))) := hV
  clear hV
  have k1' := dcell k1
  have k2' := dcell k2
  have k3' := dcell k3
  have k4' := dcell k4
  have k5' := dcell k5
  have k6' := dcell k6
  have k7' := dcell k7
  have k8' := dcell k8
  have k9' := dcell k9
  have k10' : ∀ t, (V.drewN t).frozen? ⟨q, d, none⟩ = false := fun _ => k10
  refine wp_region_last_lit (by simp) (by kernel_rfl) (by kernel_rfl) (by kernel_rfl) ?_
  dsimp only [List.dropLast, List.getLast]
  repeat (quiet_step (exact Calls.quiet_of_same (HC.out _)))
  refine wpQuiet_nil ?_
  intro nq K hK
  go_simp
  refine hK _ _ ?_
  clear hK K
  go_wp2
  go_returns
  exact ⟨rfl, n1 + nq, by rw [HVe.out]; simp only [sd, World.drewN_drewN]⟩
end
end Go.Proofs.YtdppoblbenbafaaGreatDoor
