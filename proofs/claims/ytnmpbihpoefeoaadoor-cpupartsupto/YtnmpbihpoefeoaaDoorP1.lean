/- The argument of CpuParts, opened: a machine's state, its pages, its input. -/
import Derived.Test.YtnmpbihpoefeoaaDoorRows
import Derived.Test.YtnmpbihpoefeoaaDoorOB
import Derived.ProofKit
import Derived.OpenShut
import Derived.Deep.DeepHandedRow
import Derived.Deep.Slices
import Derived.Deep.Strs
import Derived.Lib.LaidTab
import Derived.Lib.SmallJoins
namespace Go.Proofs.YtnmpbihpoefeoaaDoor.cpuParts
open Go.ChangeShapes Go.WideShapes Go.ChangeAt Go.RowKit Go.Deep Go.Joins
theorem pcells51 : Tryd.prog.cellsOf 51 = 3 := by kernel_rfl
theorem pcells5 : Tryd.prog.cellsOf 5 = 1 := by kernel_rfl
theorem pcells22 : Tryd.prog.cellsOf 22 = 1 := by kernel_rfl
theorem pcells23 : Tryd.prog.cellsOf 23 = 1 := by kernel_rfl
theorem pcells3 : Tryd.prog.cellsOf 3 = 1 := by kernel_rfl
theorem pcells4 : Tryd.prog.cellsOf 4 = 1 := by kernel_rfl
theorem pcells35 : Tryd.prog.cellsOf 35 = 1 := by kernel_rfl
theorem pcells38 : Tryd.prog.cellsOf 38 = 1 := by kernel_rfl
theorem pcells34 : Tryd.prog.cellsOf 34 = 32 := by kernel_rfl
theorem pcells37 : Tryd.prog.cellsOf 37 = 39 := by kernel_rfl
theorem pcells40 : Tryd.prog.cellsOf 40 = 42 := by kernel_rfl
theorem u64_range {a : Int} (h : (Lit.int .u64 a).wf = true) : 0 ≤ a ∧ a < 18446744073709551616 := by
  simp [Lit.wf, IntKind.min, IntKind.max, IntKind.signed, IntKind.bits] at h
  omega
theorem u8_range {a : Int} (h : (Lit.int .u8 a).wf = true) : 0 ≤ a ∧ a < 256 := by
  simp [Lit.wf, IntKind.min, IntKind.max, IntKind.signed, IntKind.bits] at h
  omega
theorem spot_none {W : World} {a : Addr} {v : Value} (h : W.cell? a = some v) : a = ⟨a.block, a.off, none⟩ := by
  obtain ⟨b, o, s⟩ := a
  cases s with
  | none => rfl
  | some x =>
    unfold World.cell? at h
    split at h
    · simp at h
    · cases h
theorem cells_three {W : World} {base : Nat} {A : Addr} {cs : List Value} (h : W.cells? base A 3 = some cs) : ∃ c0 c1 c2, cs = [c0, c1, c2] ∧ W.cell? A = some c0 ∧ W.cell? (A.add 1) = some c1 ∧ W.cell? (A.add 2) = some c2 := by
  unfold World.cells? at h
  split at h
  · simp only [List.range_succ, List.range_zero, List.nil_append, List.cons_append, List.mapM_cons, List.mapM_nil, Option.pure_def, Option.bind_eq_bind] at h
    cases h0 : W.cell? (A.add 0) with
    | none => rw [h0] at h; simp at h
    | some c0 =>
      cases h1 : W.cell? (A.add 1) with
      | none => rw [h0, h1] at h; simp at h
      | some c1 =>
        cases h2 : W.cell? (A.add 2) with
        | none => rw [h0, h1, h2] at h; simp at h
        | some c2 =>
          rw [h0, h1, h2] at h
          simp at h
          exact ⟨c0, c1, c2, h.symm, by simpa [Addr.add] using h0, rfl, rfl⟩
  · cases h
theorem cells_one {W : World} {base : Nat} {A : Addr} {cs : List Value} (h : W.cells? base A 1 = some cs) : ∃ c0, cs = [c0] ∧ W.cell? A = some c0 := by
  unfold World.cells? at h
  split at h
  · simp only [List.range_succ, List.range_zero, List.nil_append, List.mapM_cons, List.mapM_nil, Option.pure_def, Option.bind_eq_bind] at h
    cases h0 : W.cell? (A.add 0) with
    | none => rw [h0] at h; simp at h
    | some c0 =>
      rw [h0] at h
      simp at h
      exact ⟨c0, h.symm, by simpa [Addr.add] using h0⟩
  · cases h
def kOf (W : World) (lb lo i : Nat) : Int := match W.cell? ⟨lb, lo + i * 3, none⟩ with
  | some (.int .u64 x) => x
  | _ => 0
def pOf (W : World) (lb lo i : Nat) : Int := match W.cell? ⟨lb, lo + i * 3 + 1, none⟩ with
  | some (.int .i64 x) => x
  | _ => 0
def slOf (W : World) (lb lo i : Nat) : Option Addr × Nat × Nat := match W.cell? ⟨lb, lo + i * 3 + 2, none⟩ with
  | some (.slice a l c) => (a, l, c)
  | _ => (none, 0, 0)
def yOf (W : World) (lb lo i j : Nat) : Int := match (slOf W lb lo i).1 with
  | some a => btOf W a.block (a.off + j)
  | none => 0
theorem yOf_small (W : World) (lb lo i j : Nat) : 0 ≤ yOf W lb lo i j ∧ yOf W lb lo i j < 256 := by
  unfold yOf
  split
  · exact btOf_small _ _ _
  · omega
set_option maxRecDepth 100000 in
/-- A page's cells. -/
theorem page_open {H : Type} {enc : TypeId × Value → H} {W : World} {base : Nat} {spare : Nat → Bool} {held : Bool} {fuel : Nat} {A : Addr} {cs : List Value} {x : DataW H × List MemPlace} (hc : W.cells? base A 3 = some cs) (h : DataW.trod enc Tryd.prog W base spare held fuel 51 cs = some x) :
    ∃ (k p : Int) (ao : Option Addr) (l c : Nat), A = ⟨A.block, A.off, none⟩ ∧ W.cell? ⟨A.block, A.off, none⟩ = some (.int .u64 k) ∧ W.cell? ⟨A.block, A.off + 1, none⟩ = some (.int .i64 p) ∧ W.cell? ⟨A.block, A.off + 2, none⟩ = some (.slice ao l c) ∧ (0 ≤ k ∧ k < 18446744073709551616) ∧
      (0 < l → ∃ g o, ao = some ⟨g, o, none⟩ ∧ ∀ j, j < l → W.cell? ⟨g, o + j, none⟩ = some (.int .u8 (btOf W g (o + j)))) := by
  obtain ⟨c0, c1, c2, rfl, h0, h1, h2⟩ := cells_three hc
  have eA := spot_none h0
  obtain ⟨b, o, s⟩ := A
  obtain rfl : s = none := by simpa using eA
  rw [Addr.add_lit] at h1 h2
  obtain ⟨y0, y1, y2, n, rfl, _, t0, t1, t2⟩ := trod_struct3 Tryd.underlying51 h
  simp [pcells22] at t0
  obtain ⟨k, e0, _, w0⟩ := DataW.trod_int Tryd.underlying22 t0
  simp at e0
  subst e0
  simp [pcells3] at t1
  obtain ⟨p, e1, _, w1⟩ := DataW.trod_int Tryd.underlying3 t1
  simp at e1
  subst e1
  simp [pcells35] at t2
  rcases open_slice Tryd.underlying35 t2 with ⟨e2, _⟩ | ⟨a, len, cap, m, n', D, Pl, e2, _, hlc, _, hm, _, hel⟩
  · simp at e2
    subst e2
    exact ⟨k, p, none, 0, 0, rfl, h0, h1, h2, u64_range w0, fun h => absurd h (by omega)⟩
  · simp at e2
    subst e2
    refine ⟨k, p, some a, len, cap, rfl, h0, h1, h2, u64_range w0, fun hl => ?_⟩
    have hml : len ≤ m := by rw [hm]; split <;> omega
    have key : ∀ j, j < len → ∃ y, W.cell? (a.add j) = some (.int .u8 y) ∧ 0 ≤ y ∧ y < 256 := by
      intro j hj
      obtain ⟨cs', hc', ht'⟩ := hel j (by omega)
      rw [pcells5, Nat.mul_one] at hc'
      obtain ⟨c', rfl, hcell⟩ := cells_one hc'
      obtain ⟨y, e, _, wy⟩ := DataW.trod_int Tryd.underlying5 ht'
      simp at e
      subst e
      exact ⟨y, hcell, u8_range wy⟩
    obtain ⟨y, hy, _⟩ := key 0 hl
    have ea := spot_none (by simpa [Addr.add] using hy : W.cell? a = _)
    obtain ⟨g, o', s'⟩ := a
    obtain rfl : s' = none := by simpa using ea
    refine ⟨g, o', rfl, fun j hj => ?_⟩
    obtain ⟨y, hy, hr⟩ := key j hj
    rw [Addr.add_lit] at hy
    rw [hy, btOf_at hy hr]
set_option maxRecDepth 100000 in
theorem pages_open {H : Type} {enc : TypeId × Value → H} {W : World} {base : Nat} {spare : Nat → Bool} {held : Bool} {v : Value} {d : DataW H} {ps : List MemPlace} (h : DataW.Trod enc Tryd.prog W base spare held 38 v d ps) (hv : ∃ a l c, v = .slice a l c) : ∃ (len : Nat) (k p : Nat → Int) (ao : Nat → Option Addr) (bl bc : Nat → Nat) (Y : Nat → Nat → Int), PgArg W v len k p ao bl bc Y := by
  obtain ⟨va, vl, vc, rfl⟩ := hv
  obtain ⟨fuel, hf⟩ := h
  rcases open_slice Tryd.underlying38 hf with ⟨e, _⟩ | ⟨a, len, cap, m, n', D, Pl, e, _, hlc, _, hm, _, hel⟩
  · simp [Value.cells] at e
    obtain ⟨rfl, rfl, rfl⟩ := e
    exact ⟨0, fun _ => 0, fun _ => 0, fun _ => none, fun _ => 0, fun _ => 0, fun _ _ => 0, ⟨none, 0, rfl, Nat.le_refl _, fun h => absurd h (by omega)⟩, fun _ _ => ⟨by omega, by omega⟩⟩
  · simp [Value.cells] at e
    obtain ⟨rfl, rfl, rfl⟩ := e
    have hml : vl ≤ m := by rw [hm]; split <;> omega
    by_cases hl : 0 < vl
    · have ea : a = ⟨a.block, a.off, none⟩ := by
        obtain ⟨cs', hc', ht'⟩ := hel 0 (by omega)
        rw [pcells51] at hc'
        obtain ⟨_, _, _, _, _, eA, _⟩ := page_open hc' ht'
        simpa [Addr.add] using eA
      obtain ⟨lb, lo, s⟩ := a
      obtain rfl : s = none := by simpa using ea
      have key : ∀ i, i < vl → ∃ (k p : Int) (ao : Option Addr) (l c : Nat), W.cell? ⟨lb, lo + i * 3, none⟩ = some (.int .u64 k) ∧ W.cell? ⟨lb, lo + i * 3 + 1, none⟩ = some (.int .i64 p) ∧ W.cell? ⟨lb, lo + i * 3 + 2, none⟩ = some (.slice ao l c) ∧ (0 ≤ k ∧ k < 18446744073709551616) ∧ (0 < l → ∃ g o, ao = some ⟨g, o, none⟩ ∧ ∀ j, j < l → W.cell? ⟨g, o + j, none⟩ = some (.int .u8 (btOf W g (o + j)))) := by
        intro i hi
        obtain ⟨cs', hc', ht'⟩ := hel i (by omega)
        rw [pcells51, Addr.add_lit] at hc'
        obtain ⟨k, p, ao, l, c, _, q0, q1, q2, q3, q4⟩ := page_open hc' ht'
        exact ⟨k, p, ao, l, c, q0, q1, q2, q3, q4⟩
      refine ⟨vl, kOf W lb lo, pOf W lb lo, fun i => (slOf W lb lo i).1, fun i => (slOf W lb lo i).2.1, fun i => (slOf W lb lo i).2.2, yOf W lb lo, ⟨_, vc, rfl, hlc, fun _ => ⟨lb, lo, rfl, ?_⟩⟩, yOf_small W lb lo⟩
      refine ⟨fun i hi => ?_, fun i hi => ?_, fun i hi => ?_, fun i hi hb => ?_, yOf_small W lb lo, fun i hi => ?_⟩
      all_goals obtain ⟨k, p, ao, l, c, q0, q1, q2, q3, q4⟩ := key i hi
      · unfold kOf; rw [q0]
      · unfold pOf; rw [q1]
      · unfold slOf; rw [q2]
      · have e : slOf W lb lo i = (ao, l, c) := by unfold slOf; rw [q2]
        rw [e] at hb
        obtain ⟨g, o, rfl, hc⟩ := q4 (by have : l = 4096 := hb; omega)
        refine ⟨g, o, by rw [e], fun j hj => ?_⟩
        have : l = 4096 := hb
        rw [hc j (by omega)]
        unfold yOf
        rw [e]
      · unfold kOf; rw [q0]; exact q3
    · obtain rfl : vl = 0 := by omega
      exact ⟨0, fun _ => 0, fun _ => 0, fun _ => none, fun _ => 0, fun _ => 0, fun _ _ => 0, ⟨some a, vc, rfl, hlc, fun h => absurd h (by omega)⟩, fun _ _ => ⟨by omega, by omega⟩⟩
/-- What the bound counts. -/
theorem bulk_one {H : Type} (d : DataW H) : 1 ≤ Rows.uptoBulk d := by
  cases d with
  | lit l => cases l <;> simp [Rows.uptoBulk]
  | _ => simp [Rows.uptoBulk]
theorem bulk_len {H : Type} (l : List (DataW H)) : l.length ≤ Rows.uptoBulkAll l := by
  induction l with
  | nil => simp [Rows.uptoBulkAll]
  | cons x r ih =>
    have := bulk_one x
    simp only [Rows.uptoBulkAll, List.length_cons]
    omega
/-- A slice of bytes. -/
theorem bytes_open {H : Type} {enc : TypeId × Value → H} {W : World} {base : Nat} {spare : Nat → Bool} {held : Bool} {fuel : Nat} {v : Value} {x : DataW H × List MemPlace} (h : DataW.trod enc Tryd.prog W base spare held fuel 35 [v] = some x) :
    ∃ (a : Option Addr) (n c : Nat) (Y : Nat → Int), v = .slice a n c ∧ ByA W (.slice a n c) n Y ∧ (∀ j, 0 ≤ Y j ∧ Y j < 256) ∧ n ≤ Rows.uptoBulk x.1 := by
  rcases open_ints Tryd.underlying35 Tryd.underlying5 pcells5 h with ⟨e, rfl⟩ | ⟨a, len, cap, zs, e, _, hlc, _, hz, rfl, hcell, hwf⟩
  · simp at e
    subst e
    exact ⟨none, 0, 0, fun _ => 0, rfl, ⟨none, 0, rfl, fun _ => ⟨rfl, rfl⟩, fun a ha => by cases ha⟩, fun _ => ⟨Int.le_refl 0, (by decide : (0 : Int) < 256)⟩, Nat.zero_le _⟩
  · simp at e
    subst e
    have hl : len ≤ zs.length := by rw [hz]; split <;> omega
    refine ⟨some a, len, cap, fun j => if j < len then zs.getD j 0 else 0, rfl, ⟨some a, cap, rfl, (fun h => by cases h), fun a' ha j hj => ?_⟩, fun j => ?_, ?_⟩
    · cases ha
      have hc := hcell j (by omega)
      refine ⟨World.block_lt_of_cell? _ _ hc, ?_⟩
      simp only [if_pos hj]
      exact hc
    · dsimp only
      split
      · have hm : zs.getD j 0 ∈ zs := by
          unfold List.getD
          rw [List.getElem?_eq_getElem (by omega)]
          exact List.getElem_mem _
        exact u8_range (hwf _ hm)
      · omega
    · have t := bulk_len (H := H) (lits .u8 (zs.take len))
      simp only [Rows.uptoBulk]
      have t2 : (lits (H := H) .u8 (zs.take len)).length = len := by simp [lits]; omega
      omega
theorem tail3 {α : Type} (L : List α) (h : L.length = 42) : ∃ A u v z, L = A ++ [u, v, z] ∧ A.length = 39 := by
  have h3 : (L.drop 39).length = 3 := by simp; omega
  match hd : L.drop 39, h3 with
  | [u, v, z], _ => exact ⟨L.take 39, u, v, z, by rw [← hd, List.take_append_drop], by simp; omega⟩
theorem head1 {α : Type} (A : List α) (h : A.length = 39) : ∃ c R a b d e f g, A = c :: (R ++ [a, b, d, e, f, g]) ∧ R.length = 32 := by
  match A, h with
  | c :: B, h =>
    have hB : B.length = 38 := by simpa using h
    have h6 : (B.drop 32).length = 6 := by simp; omega
    match hd : B.drop 32, h6 with
    | [a, b, d, e, f, g], _ => exact ⟨c, B.take 32, a, b, d, e, f, g, by rw [← hd, List.take_append_drop], by simp; omega⟩
def numAt (R : List Value) (r : Nat) : Int := match R[r]? with
  | some (.int .u64 z) => if 0 ≤ z ∧ z < 18446744073709551616 then z else 0
  | _ => 0
theorem numAt_u (R : List Value) (r : Nat) : U64 (numAt R r) := by
  unfold numAt U64
  split
  · split <;> omega
  · omega
theorem regs_open {H : Type} {enc : TypeId × Value → H} {W : World} {base : Nat} {spare : Nat → Bool} {held : Bool} {fuel : Nat} {R : List Value} {x : DataW H × List MemPlace} (hR : R.length = 32) (h : DataW.trod enc Tryd.prog W base spare held fuel 34 R = some x) : R = (List.range 32).map (fun r => Value.int .u64 (numAt R r)) := by
  obtain ⟨xs, m, _, _, _, hl, hel⟩ := DataW.trod_array Tryd.underlying34 h
  apply List.ext_getElem
  · simp [hR]
  · intro i h1 h2
    have hi : i < 32 := by omega
    have g := hel i hi
    rw [pcells22, Nat.mul_one, List.getElem?_eq_getElem (by omega)] at g
    rw [List.drop_eq_getElem_cons h1] at g
    rw [List.take_succ_cons, List.take_zero] at g
    obtain ⟨z, e, _, wz⟩ := DataW.trod_int Tryd.underlying22 g
    have e1 : R[i] = .int .u64 z := by simpa using e
    have e2 : numAt R i = z := by
      unfold numAt
      rw [List.getElem?_eq_getElem h1, e1]
      simp [u64_range wz]
    rw [List.getElem_map, List.getElem_range, e2, e1]
theorem cpu_open {H : Type} {enc : TypeId × Value → H} {W : World} {base : Nat} {spare : Nat → Bool} {held : Bool} {fuel : Nat} {A : List Value} {x : DataW H × List MemPlace} (hA : A.length = 39) (h : DataW.trod enc Tryd.prog W base spare held fuel 37 A = some x) :
    ∃ (s : Sx) (a : Option Addr) (n c : Nat) (Y : Nat → Int), A = cl s (.slice a n c) ∧ ByA W (.slice a n c) n Y ∧ (∀ r, U64 (s.x r)) ∧ U64 s.pc ∧ n ≤ Rows.uptoBulk x.1 := by
  obtain ⟨c0, R, c33, c34, c35, c36, c37, c38, rfl, hR⟩ := head1 A hA
  obtain ⟨xs, m, _, hx, _, hlen, hg⟩ := DataW.trod_struct Tryd.underlying37 h
  match xs, hlen with
  | [y0, y1, y2, y3, y4, y5, y6, y7], _ =>
    have g0 := hg 0 _ rfl
    have g1 := hg 1 _ rfl
    have g2 := hg 2 _ rfl
    have g3 := hg 3 _ rfl
    have g4 := hg 4 _ rfl
    have g5 := hg 5 _ rfl
    have g6 := hg 6 _ rfl
    have g7 := hg 7 _ rfl
    have d33 : R.drop 33 = [] := List.drop_eq_nil_of_le (by omega)
    have d34 : R.drop 34 = [] := List.drop_eq_nil_of_le (by omega)
    have d35 : R.drop 35 = [] := List.drop_eq_nil_of_le (by omega)
    have d36 : R.drop 36 = [] := List.drop_eq_nil_of_le (by omega)
    have d37 : R.drop 37 = [] := List.drop_eq_nil_of_le (by omega)
    simp [pcells22, pcells34, pcells3, pcells4, pcells23, pcells35, hR, List.drop_append, List.take_append, d33, d34, d35, d36, d37] at g0 g1 g2 g3 g4 g5 g6 g7
    obtain ⟨pc, e0, _, w0⟩ := DataW.trod_int Tryd.underlying22 g0
    obtain ⟨st, e2, _, _⟩ := DataW.trod_int Tryd.underlying3 g2
    obtain ⟨hb, e3, _⟩ := DataW.trod_bool Tryd.underlying4 g3
    obtain ⟨co, e4, _, _⟩ := DataW.trod_int Tryd.underlying3 g4
    obtain ⟨ft, e5, _, _⟩ := DataW.trod_int Tryd.underlying23 g5
    obtain ⟨inn, e7, _, _⟩ := DataW.trod_int Tryd.underlying3 g7
    obtain ⟨a, n, c, Y, e6, hBy, _, hn⟩ := bytes_open g6
    simp at e0 e2 e3 e4 e5 e7
    subst e0 e2 e3 e4 e5 e6 e7
    have hr := regs_open hR g1
    refine ⟨⟨pc, numAt R, st, hb, co, ft, inn⟩, a, n, c, Y, ?_, hBy, numAt_u R, u64_range w0, ?_⟩
    · unfold cl
      rw [← hr]
    · rw [hx]
      simp only [List.map, Rows.uptoBulk, Rows.uptoBulkAll]
      omega
set_option maxRecDepth 100000 in
theorem case_open {H : Type} {enc : TypeId × Value → H} {W : World} {base : Nat} {spare : Nat → Bool} {held : Bool} {r : Reach} {b0 : Nat} {v : Value} {d : DataW H} {ps : List MemPlace} (hv : Value.okWide Tryd.prog W r b0 40 v) (h : DataW.Trod enc Tryd.prog W base spare held 40 v d ps) :
    ∃ (s : Sx) (a0 : Option Addr) (n0 c0 : Nat) (Y0 : Nat → Int) (pa : Option Addr) (pl pc : Nat) (ai : Option Addr) (ni ci : Nat) (Yi : Nat → Int) (k p : Nat → Int) (ao : Nat → Option Addr) (bl bc : Nat → Nat) (Y : Nat → Nat → Int) (n : Int),
      v = .agg (cs4 s (.slice a0 n0 c0) (.slice pa pl pc) (.slice ai ni ci) n).toArray ∧ PgArg W (.slice pa pl pc) pl k p ao bl bc Y ∧ ByA W (.slice a0 n0 c0) n0 Y0 ∧ ByA W (.slice ai ni ci) ni Yi ∧ (∀ j, 0 ≤ Yi j ∧ Yi j < 256) ∧ (∀ r, U64 (s.x r)) ∧ U64 s.pc ∧ n0 ≤ Rows.uptoBulk d ∧ ni ≤ Rows.uptoBulk d := by
  obtain ⟨cs, rfl, hsz⟩ := okWide_struct Tryd.underlying40 hv
  obtain ⟨L⟩ := cs
  rw [pcells40] at hsz
  obtain ⟨A, u, v', z, rfl, hA⟩ := tail3 L (by simpa using hsz)
  obtain ⟨fuel, hf⟩ := h
  have hf' : DataW.trod enc Tryd.prog W base spare held fuel 40 (A ++ [u, v', z]) = some (d, ps) := hf
  obtain ⟨xs, m, _, hx, _, hlen, hg⟩ := DataW.trod_struct Tryd.underlying40 hf'
  match xs, hlen with
  | [y0, y1, y2, y3], _ =>
    have g0 := hg 0 _ rfl
    have g1 := hg 1 _ rfl
    have g2 := hg 2 _ rfl
    have g3 := hg 3 _ rfl
    have d40 : A.drop 40 = [] := List.drop_eq_nil_of_le (by omega)
    have d41 : A.drop 41 = [] := List.drop_eq_nil_of_le (by omega)
    simp [pcells37, pcells38, pcells35, pcells3, hA, List.drop_append, d40, d41] at g0 g1 g2 g3
    obtain ⟨s, a0, n0, c0, Y0, rfl, hB0, hsx, hspc, hn0⟩ := cpu_open hA g0
    obtain ⟨ai, ni, ci, Yi, rfl, hBi, hYi, hni⟩ := bytes_open g2
    obtain ⟨n, e3, _, _⟩ := DataW.trod_int Tryd.underlying3 g3
    simp at e3
    subst e3
    obtain ⟨pa, pl, pc, eu⟩ := slice_form Tryd.underlying38 g1
    simp at eu
    subst eu
    obtain ⟨len, k, p, ao, bl, bc, Y, hP⟩ := pages_open ⟨m, g1⟩ ⟨pa, pl, pc, rfl⟩
    obtain rfl : len = pl := by
      obtain ⟨⟨a, cap, e, _⟩, _⟩ := hP
      cases e
      rfl
    simp only [Prod.mk.injEq] at hx
    refine ⟨s, a0, n0, c0, Y0, pa, len, pc, ai, ni, ci, Yi, k, p, ao, bl, bc, Y, n, rfl, hP, hB0, hBi, hYi, hsx, hspc, ?_, ?_⟩
    all_goals
      rw [hx.1]
      simp only [List.map, Rows.uptoBulk, Rows.uptoBulkAll]
      omega
end Go.Proofs.YtnmpbihpoefeoaaDoor.cpuParts
