/- Pages as they come in: what a reading of them says of memory. -/
import Derived.Test.YtndbkkldfinggabRows
import Derived.Test.YtndbkkldfinggabF5
import Derived.ProofKit
import Derived.OpenShut
import Derived.Deep.DeepHandedRow
import Derived.Deep.Slices
import Derived.Deep.Strs
import Derived.Lib.LaidTab
import Derived.Lib.SmallJoins
namespace Go.Proofs.Ytndbkkldfinggab
open Go.ChangeShapes Go.WideShapes Go.ChangeAt Go.RowKit Go.Deep Go.Joins
theorem cells62 : Try.prog.cellsOf 62 = 3 := by kernel_rfl
theorem cells5 : Try.prog.cellsOf 5 = 1 := by kernel_rfl
theorem cells23 : Try.prog.cellsOf 23 = 1 := by kernel_rfl
theorem cells3 : Try.prog.cellsOf 3 = 1 := by kernel_rfl
theorem cells48 : Try.prog.cellsOf 48 = 1 := by kernel_rfl
theorem u64_range {a : Int} (h : (Lit.int .u64 a).wf = true) : 0 ≤ a ∧ a < 18446744073709551616 := by
  simp [Lit.wf, IntKind.min, IntKind.max, IntKind.signed, IntKind.bits] at h
  omega
theorem u8_range {a : Int} (h : (Lit.int .u8 a).wf = true) : 0 ≤ a ∧ a < 256 := by
  simp [Lit.wf, IntKind.min, IntKind.max, IntKind.signed, IntKind.bits] at h
  omega
theorem spot_none {W : World} {a : Addr} {v : Value} (h : W.cell? a = some v) : a = ⟨a.block, a.off, none⟩ := by
  obtain ⟨b, o, s⟩ := a
  cases s with
  | none => rfl
  | some x =>
    unfold World.cell? at h
    split at h
    · simp at h
    · cases h
theorem cells_three {W : World} {base : Nat} {A : Addr} {cs : List Value} (h : W.cells? base A 3 = some cs) : ∃ c0 c1 c2, cs = [c0, c1, c2] ∧ W.cell? A = some c0 ∧ W.cell? (A.add 1) = some c1 ∧ W.cell? (A.add 2) = some c2 := by
  unfold World.cells? at h
  split at h
  · simp only [List.range_succ, List.range_zero, List.nil_append, List.cons_append, List.mapM_cons, List.mapM_nil, Option.pure_def, Option.bind_eq_bind] at h
    cases h0 : W.cell? (A.add 0) with
    | none => rw [h0] at h; simp at h
    | some c0 =>
      cases h1 : W.cell? (A.add 1) with
      | none => rw [h0, h1] at h; simp at h
      | some c1 =>
        cases h2 : W.cell? (A.add 2) with
        | none => rw [h0, h1, h2] at h; simp at h
        | some c2 =>
          rw [h0, h1, h2] at h
          simp at h
          exact ⟨c0, c1, c2, h.symm, by simpa [Addr.add] using h0, rfl, rfl⟩
  · cases h
theorem cells_one {W : World} {base : Nat} {A : Addr} {cs : List Value} (h : W.cells? base A 1 = some cs) : ∃ c0, cs = [c0] ∧ W.cell? A = some c0 := by
  unfold World.cells? at h
  split at h
  · simp only [List.range_succ, List.range_zero, List.nil_append, List.mapM_cons, List.mapM_nil, Option.pure_def, Option.bind_eq_bind] at h
    cases h0 : W.cell? (A.add 0) with
    | none => rw [h0] at h; simp at h
    | some c0 =>
      rw [h0] at h
      simp at h
      exact ⟨c0, h.symm, by simpa [Addr.add] using h0⟩
  · cases h
def kOf (W : World) (lb lo i : Nat) : Int := match W.cell? ⟨lb, lo + i * 3, none⟩ with
  | some (.int .u64 x) => x
  | _ => 0
def pOf (W : World) (lb lo i : Nat) : Int := match W.cell? ⟨lb, lo + i * 3 + 1, none⟩ with
  | some (.int .i64 x) => x
  | _ => 0
def slOf (W : World) (lb lo i : Nat) : Option Addr × Nat × Nat := match W.cell? ⟨lb, lo + i * 3 + 2, none⟩ with
  | some (.slice a l c) => (a, l, c)
  | _ => (none, 0, 0)
def yOf (W : World) (lb lo i j : Nat) : Int := match (slOf W lb lo i).1 with
  | some a => btOf W a.block (a.off + j)
  | none => 0
theorem yOf_small (W : World) (lb lo i j : Nat) : 0 ≤ yOf W lb lo i j ∧ yOf W lb lo i j < 256 := by
  unfold yOf
  split
  · exact btOf_small _ _ _
  · omega
set_option maxRecDepth 100000 in
/-- A page's cells. -/
theorem page_open {H : Type} {enc : TypeId × Value → H} {W : World} {base : Nat} {spare : Nat → Bool} {held : Bool} {fuel : Nat} {A : Addr} {cs : List Value} {x : DataW H × List MemPlace} (hc : W.cells? base A 3 = some cs) (h : DataW.trod enc Try.prog W base spare held fuel 62 cs = some x) :
    ∃ (k p : Int) (ao : Option Addr) (l c : Nat), A = ⟨A.block, A.off, none⟩ ∧ W.cell? ⟨A.block, A.off, none⟩ = some (.int .u64 k) ∧ W.cell? ⟨A.block, A.off + 1, none⟩ = some (.int .i64 p) ∧ W.cell? ⟨A.block, A.off + 2, none⟩ = some (.slice ao l c) ∧ (0 ≤ k ∧ k < 18446744073709551616) ∧
      (0 < l → ∃ g o, ao = some ⟨g, o, none⟩ ∧ ∀ j, j < l → W.cell? ⟨g, o + j, none⟩ = some (.int .u8 (btOf W g (o + j)))) := by
  obtain ⟨c0, c1, c2, rfl, h0, h1, h2⟩ := cells_three hc
  have eA := spot_none h0
  obtain ⟨b, o, s⟩ := A
  obtain rfl : s = none := by simpa using eA
  rw [Addr.add_lit] at h1 h2
  obtain ⟨y0, y1, y2, n, rfl, _, t0, t1, t2⟩ := trod_struct3 Try.underlying62 h
  simp [cells23] at t0
  obtain ⟨k, e0, _, w0⟩ := DataW.trod_int Try.underlying23 t0
  simp at e0
  subst e0
  simp [cells3] at t1
  obtain ⟨p, e1, _, w1⟩ := DataW.trod_int Try.underlying3 t1
  simp at e1
  subst e1
  simp [cells48] at t2
  rcases open_slice Try.underlying48 t2 with ⟨e2, _⟩ | ⟨a, len, cap, m, n', D, Pl, e2, _, hlc, _, hm, _, hel⟩
  · simp at e2
    subst e2
    exact ⟨k, p, none, 0, 0, rfl, h0, h1, h2, u64_range w0, fun h => absurd h (by omega)⟩
  · simp at e2
    subst e2
    refine ⟨k, p, some a, len, cap, rfl, h0, h1, h2, u64_range w0, fun hl => ?_⟩
    have hml : len ≤ m := by rw [hm]; split <;> omega
    have key : ∀ j, j < len → ∃ y, W.cell? (a.add j) = some (.int .u8 y) ∧ 0 ≤ y ∧ y < 256 := by
      intro j hj
      obtain ⟨cs', hc', ht'⟩ := hel j (by omega)
      rw [cells5, Nat.mul_one] at hc'
      obtain ⟨c', rfl, hcell⟩ := cells_one hc'
      obtain ⟨y, e, _, wy⟩ := DataW.trod_int Try.underlying5 ht'
      simp at e
      subst e
      exact ⟨y, hcell, u8_range wy⟩
    obtain ⟨y, hy, _⟩ := key 0 hl
    have ea := spot_none (by simpa [Addr.add] using hy : W.cell? a = _)
    obtain ⟨g, o', s'⟩ := a
    obtain rfl : s' = none := by simpa using ea
    refine ⟨g, o', rfl, fun j hj => ?_⟩
    obtain ⟨y, hy, hr⟩ := key j hj
    rw [Addr.add_lit] at hy
    rw [hy, btOf_at hy hr]
set_option maxRecDepth 100000 in
theorem pages_open {H : Type} {enc : TypeId × Value → H} {W : World} {base : Nat} {spare : Nat → Bool} {held : Bool} {v : Value} {d : DataW H} {ps : List MemPlace} (h : DataW.Trod enc Try.prog W base spare held 22 v d ps) (hv : ∃ a l c, v = .slice a l c) : ∃ (len : Nat) (k p : Nat → Int) (ao : Nat → Option Addr) (bl bc : Nat → Nat) (Y : Nat → Nat → Int), PgArg W v len k p ao bl bc Y := by
  obtain ⟨va, vl, vc, rfl⟩ := hv
  obtain ⟨fuel, hf⟩ := h
  rcases open_slice Try.underlying22 hf with ⟨e, _⟩ | ⟨a, len, cap, m, n', D, Pl, e, _, hlc, _, hm, _, hel⟩
  · simp [Value.cells] at e
    obtain ⟨rfl, rfl, rfl⟩ := e
    exact ⟨0, fun _ => 0, fun _ => 0, fun _ => none, fun _ => 0, fun _ => 0, fun _ _ => 0, ⟨none, 0, rfl, Nat.le_refl _, fun h => absurd h (by omega)⟩, fun _ _ => ⟨by omega, by omega⟩⟩
  · simp [Value.cells] at e
    obtain ⟨rfl, rfl, rfl⟩ := e
    have hml : vl ≤ m := by rw [hm]; split <;> omega
    by_cases hl : 0 < vl
    · have ea : a = ⟨a.block, a.off, none⟩ := by
        obtain ⟨cs', hc', ht'⟩ := hel 0 (by omega)
        rw [cells62] at hc'
        obtain ⟨_, _, _, _, _, eA, _⟩ := page_open hc' ht'
        simpa [Addr.add] using eA
      obtain ⟨lb, lo, s⟩ := a
      obtain rfl : s = none := by simpa using ea
      have key : ∀ i, i < vl → ∃ (k p : Int) (ao : Option Addr) (l c : Nat), W.cell? ⟨lb, lo + i * 3, none⟩ = some (.int .u64 k) ∧ W.cell? ⟨lb, lo + i * 3 + 1, none⟩ = some (.int .i64 p) ∧ W.cell? ⟨lb, lo + i * 3 + 2, none⟩ = some (.slice ao l c) ∧ (0 ≤ k ∧ k < 18446744073709551616) ∧ (0 < l → ∃ g o, ao = some ⟨g, o, none⟩ ∧ ∀ j, j < l → W.cell? ⟨g, o + j, none⟩ = some (.int .u8 (btOf W g (o + j)))) := by
        intro i hi
        obtain ⟨cs', hc', ht'⟩ := hel i (by omega)
        rw [cells62, Addr.add_lit] at hc'
        obtain ⟨k, p, ao, l, c, _, q0, q1, q2, q3, q4⟩ := page_open hc' ht'
        exact ⟨k, p, ao, l, c, q0, q1, q2, q3, q4⟩
      refine ⟨vl, kOf W lb lo, pOf W lb lo, fun i => (slOf W lb lo i).1, fun i => (slOf W lb lo i).2.1, fun i => (slOf W lb lo i).2.2, yOf W lb lo, ⟨_, vc, rfl, hlc, fun _ => ⟨lb, lo, rfl, ?_⟩⟩, yOf_small W lb lo⟩
      refine ⟨fun i hi => ?_, fun i hi => ?_, fun i hi => ?_, fun i hi hb => ?_, yOf_small W lb lo, fun i hi => ?_⟩
      all_goals obtain ⟨k, p, ao, l, c, q0, q1, q2, q3, q4⟩ := key i hi
      · unfold kOf; rw [q0]
      · unfold pOf; rw [q1]
      · unfold slOf; rw [q2]
      · have e : slOf W lb lo i = (ao, l, c) := by unfold slOf; rw [q2]
        rw [e] at hb
        obtain ⟨g, o, rfl, hc⟩ := q4 (by have : l = 4096 := hb; omega)
        refine ⟨g, o, by rw [e], fun j hj => ?_⟩
        have : l = 4096 := hb
        rw [hc j (by omega)]
        unfold yOf
        rw [e]
      · unfold kOf; rw [q0]; exact q3
    · obtain rfl : vl = 0 := by omega
      exact ⟨0, fun _ => 0, fun _ => 0, fun _ => none, fun _ => 0, fun _ => 0, fun _ _ => 0, ⟨some a, vc, rfl, hlc, fun h => absurd h (by omega)⟩, fun _ _ => ⟨by omega, by omega⟩⟩
end Go.Proofs.Ytndbkkldfinggab
