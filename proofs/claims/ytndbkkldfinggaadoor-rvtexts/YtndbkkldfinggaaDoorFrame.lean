/- What the statements of layer 1 share: an instruction as an argument, opened and shut; the table of fixed words as the row lists it; a world for the witness. -/
import Derived.Test.YtndbkkldfinggaaDoorCards
import Derived.Test.YtndbkkldfinggaaDoorTie
import Derived.Test.YtndbkkldfinggaaDoorA3
import Derived.ProofKit
import Derived.OpenShut
import Derived.Deep.DeepHandedRow
import Derived.Lib.LaidTab
import Derived.Lib.SmallJoins
namespace Go.Proofs.YtndbkkldfinggaaDoor
open Go.ChangeShapes Go.WideShapes Go.ChangeAt Go.RowKit Go.Deep Go.Joins

theorem own : ownKnob Tryd.prog.godebug = none := by kernel_rfl
theorem gTab : Tryd.prog.globalNamed "patina/rv.fixed" = some 0 := by kernel_rfl
theorem gTabType : (Tryd.prog.globals[0]?).map (·.type) = some 58 := by kernel_rfl
theorem cells58 : Tryd.prog.cellsOf 58 = 66 := by kernel_rfl
theorem cells24 : Tryd.prog.cellsOf 24 = 1 := by kernel_rfl
theorem cells23 : Tryd.prog.cellsOf 23 = 5 := by kernel_rfl

theorem tab_cells {W : World} (h : Lib.TabIs Tryd.prog W "patina/rv.fixed" .u32 (0 :: fxL)) : Tab W := by
  have hc : ∀ k : Int, 1 ≤ k → k ≤ 65 → W.cell? ⟨0, k.toNat, none⟩ = some (.int .u32 (nth fxL k)) := by
    intro k h1 h2
    rcases ops_all h1 h2 with rfl | rfl | rfl | rfl | rfl | rfl | rfl | rfl | rfl | rfl | rfl | rfl | rfl | rfl | rfl | rfl | rfl | rfl | rfl | rfl | rfl | rfl | rfl | rfl | rfl | rfl | rfl | rfl | rfl | rfl | rfl | rfl | rfl | rfl | rfl | rfl | rfl | rfl | rfl | rfl | rfl | rfl | rfl | rfl | rfl | rfl | rfl | rfl | rfl | rfl | rfl | rfl | rfl | rfl | rfl | rfl | rfl | rfl | rfl | rfl | rfl | rfl | rfl | rfl | rfl
    · exact h.cell gTab 1 (by decide)
    · exact h.cell gTab 2 (by decide)
    · exact h.cell gTab 3 (by decide)
    · exact h.cell gTab 4 (by decide)
    · exact h.cell gTab 5 (by decide)
    · exact h.cell gTab 6 (by decide)
    · exact h.cell gTab 7 (by decide)
    · exact h.cell gTab 8 (by decide)
    · exact h.cell gTab 9 (by decide)
    · exact h.cell gTab 10 (by decide)
    · exact h.cell gTab 11 (by decide)
    · exact h.cell gTab 12 (by decide)
    · exact h.cell gTab 13 (by decide)
    · exact h.cell gTab 14 (by decide)
    · exact h.cell gTab 15 (by decide)
    · exact h.cell gTab 16 (by decide)
    · exact h.cell gTab 17 (by decide)
    · exact h.cell gTab 18 (by decide)
    · exact h.cell gTab 19 (by decide)
    · exact h.cell gTab 20 (by decide)
    · exact h.cell gTab 21 (by decide)
    · exact h.cell gTab 22 (by decide)
    · exact h.cell gTab 23 (by decide)
    · exact h.cell gTab 24 (by decide)
    · exact h.cell gTab 25 (by decide)
    · exact h.cell gTab 26 (by decide)
    · exact h.cell gTab 27 (by decide)
    · exact h.cell gTab 28 (by decide)
    · exact h.cell gTab 29 (by decide)
    · exact h.cell gTab 30 (by decide)
    · exact h.cell gTab 31 (by decide)
    · exact h.cell gTab 32 (by decide)
    · exact h.cell gTab 33 (by decide)
    · exact h.cell gTab 34 (by decide)
    · exact h.cell gTab 35 (by decide)
    · exact h.cell gTab 36 (by decide)
    · exact h.cell gTab 37 (by decide)
    · exact h.cell gTab 38 (by decide)
    · exact h.cell gTab 39 (by decide)
    · exact h.cell gTab 40 (by decide)
    · exact h.cell gTab 41 (by decide)
    · exact h.cell gTab 42 (by decide)
    · exact h.cell gTab 43 (by decide)
    · exact h.cell gTab 44 (by decide)
    · exact h.cell gTab 45 (by decide)
    · exact h.cell gTab 46 (by decide)
    · exact h.cell gTab 47 (by decide)
    · exact h.cell gTab 48 (by decide)
    · exact h.cell gTab 49 (by decide)
    · exact h.cell gTab 50 (by decide)
    · exact h.cell gTab 51 (by decide)
    · exact h.cell gTab 52 (by decide)
    · exact h.cell gTab 53 (by decide)
    · exact h.cell gTab 54 (by decide)
    · exact h.cell gTab 55 (by decide)
    · exact h.cell gTab 56 (by decide)
    · exact h.cell gTab 57 (by decide)
    · exact h.cell gTab 58 (by decide)
    · exact h.cell gTab 59 (by decide)
    · exact h.cell gTab 60 (by decide)
    · exact h.cell gTab 61 (by decide)
    · exact h.cell gTab 62 (by decide)
    · exact h.cell gTab 63 (by decide)
    · exact h.cell gTab 64 (by decide)
    · exact h.cell gTab 65 (by decide)
  refine ⟨?_, hc⟩
  have h1 := hc 1 (by omega) (by omega)
  rcases Nat.eq_zero_or_pos W.heap.size with e | e
  · have : W.heap[0]? = none := by simp [e]
    simp [World.cell?, this] at h1
  · exact e

theorem array5 {α : Type} {cs : Array α} (h : cs.size = 5) : ∃ c0 c1 c2 c3 c4, cs = #[c0, c1, c2, c3, c4] := by
  obtain ⟨l⟩ := cs
  match l, h with
  | [c0, c1, c2, c3, c4], _ => exact ⟨c0, c1, c2, c3, c4, rfl⟩

section
variable {H : Type} {enc : TypeId × Value → H} {P : Program} {w : World} {base : Nat} {spare : Nat → Bool} {held : Bool}
/-- A struct of five integers, by value, opened. -/
theorem five_open {r : Reach} {b0 : Nat} {t : TypeId} {f0 f1 f2 f3 f4 : Field} {v : Value} {d : DataW H} {p : List MemPlace} (hs : P.underlying t = some (.struct #[f0, f1, f2, f3, f4])) (hone : oneCellFields P #[f0, f1, f2, f3, f4] = true) (hC : P.cellsOf t = 5)
    (u0 : P.underlying f0.type = some (.int .i64)) (u1 : P.underlying f1.type = some (.int .i64)) (u2 : P.underlying f2.type = some (.int .i64)) (u3 : P.underlying f3.type = some (.int .i64)) (u4 : P.underlying f4.type = some (.int .i64))
    (hv : Value.okWide P w r b0 t v) (h : DataW.Trod enc P w base spare held t v d p) :
    ∃ a0 a1 a2 a3 a4 : Int, v = .agg #[.int .i64 a0, .int .i64 a1, .int .i64 a2, .int .i64 a3, .int .i64 a4] ∧ d = .agg [.lit (.int .i64 a0), .lit (.int .i64 a1), .lit (.int .i64 a2), .lit (.int .i64 a3), .lit (.int .i64 a4)] ∧ p = [] ∧
      (Lit.int .i64 a0).wf = true ∧ (Lit.int .i64 a1).wf = true ∧ (Lit.int .i64 a2).wf = true ∧ (Lit.int .i64 a3).wf = true ∧ (Lit.int .i64 a4).wf = true := by
  obtain ⟨cs, rfl, hsz⟩ := okWide_struct hs hv
  obtain ⟨c0, c1, c2, c3, c4, rfl⟩ := array5 (hsz.trans hC)
  obtain ⟨fuel, hf⟩ := h
  obtain ⟨xs, m, _, hx, hl, hlen, hg⟩ := DataW.trod_struct hs hf
  match xs, hlen with
  | [y0, y1, y2, y3, y4], _ =>
    obtain ⟨o0, k0⟩ := hone_of hone 0 f0 rfl
    have g0 := hg 0 f0 rfl
    simp [Value.cells, o0, k0] at g0
    obtain ⟨a0, e0, rfl, w0⟩ := DataW.trod_int u0 g0
    simp at e0
    subst e0
    obtain ⟨o1, k1⟩ := hone_of hone 1 f1 rfl
    have g1 := hg 1 f1 rfl
    simp [Value.cells, o1, k1] at g1
    obtain ⟨a1, e1, rfl, w1⟩ := DataW.trod_int u1 g1
    simp at e1
    subst e1
    obtain ⟨o2, k2⟩ := hone_of hone 2 f2 rfl
    have g2 := hg 2 f2 rfl
    simp [Value.cells, o2, k2] at g2
    obtain ⟨a2, e2, rfl, w2⟩ := DataW.trod_int u2 g2
    simp at e2
    subst e2
    obtain ⟨o3, k3⟩ := hone_of hone 3 f3 rfl
    have g3 := hg 3 f3 rfl
    simp [Value.cells, o3, k3] at g3
    obtain ⟨a3, e3, rfl, w3⟩ := DataW.trod_int u3 g3
    simp at e3
    subst e3
    obtain ⟨o4, k4⟩ := hone_of hone 4 f4 rfl
    have g4 := hg 4 f4 rfl
    simp [Value.cells, o4, k4] at g4
    obtain ⟨a4, e4, rfl, w4⟩ := DataW.trod_int u4 g4
    simp at e4
    subst e4
    simp at hx
    exact ⟨a0, a1, a2, a3, a4, rfl, hx.1, hx.2, w0, w1, w2, w3, w4⟩
/-- The same, shut. -/
theorem five_shut {t : TypeId} {f0 f1 f2 f3 f4 : Field} {a0 a1 a2 a3 a4 : Int} (hs : P.underlying t = some (.struct #[f0, f1, f2, f3, f4])) (hone : oneCellFields P #[f0, f1, f2, f3, f4] = true) (hC : P.cellsOf t = 5)
    (u0 : P.underlying f0.type = some (.int .i64)) (u1 : P.underlying f1.type = some (.int .i64)) (u2 : P.underlying f2.type = some (.int .i64)) (u3 : P.underlying f3.type = some (.int .i64)) (u4 : P.underlying f4.type = some (.int .i64)) (w0 : (Lit.int .i64 a0).wf = true) (w1 : (Lit.int .i64 a1).wf = true) (w2 : (Lit.int .i64 a2).wf = true) (w3 : (Lit.int .i64 a3).wf = true) (w4 : (Lit.int .i64 a4).wf = true) :
    DataW.Trod enc P w base spare held t (.agg #[.int .i64 a0, .int .i64 a1, .int .i64 a2, .int .i64 a3, .int .i64 a4]) (.agg [.lit (.int .i64 a0), .lit (.int .i64 a1), .lit (.int .i64 a2), .lit (.int .i64 a3), .lit (.int .i64 a4)]) [] := by
  obtain ⟨o0, k0⟩ := hone_of hone 0 f0 rfl
  obtain ⟨o1, k1⟩ := hone_of hone 1 f1 rfl
  obtain ⟨o2, k2⟩ := hone_of hone 2 f2 rfl
  obtain ⟨o3, k3⟩ := hone_of hone 3 f3 rfl
  obtain ⟨o4, k4⟩ := hone_of hone 4 f4 rfl
  have ts := trod_struct_mk (enc := enc) (w := w) (base := base) (spare := spare) (held := held) (n := 1) (cs := [.int .i64 a0, .int .i64 a1, .int .i64 a2, .int .i64 a3, .int .i64 a4])
    (xs := [(.lit (.int .i64 a0), []), (.lit (.int .i64 a1), []), (.lit (.int .i64 a2), []), (.lit (.int .i64 a3), []), (.lit (.int .i64 a4), [])]) hs (by simp [hC])
    (by simp [DataW.trod, o0, k0, u0, w0, o1, k1, u1, w1, o2, k2, u2, w2, o3, k3, u3, w3, o4, k4, u4, w4])
  exact ⟨_, by simpa [Value.cells] using ts⟩
end

section
variable {H : Type} {enc : TypeId × Value → H} {w : World} {base : Nat} {spare : Nat → Bool} {held : Bool}
set_option maxRecDepth 100000 in
/-- An instruction among the arguments, opened. -/
theorem instr_open {r : Reach} {b0 : Nat} {v : Value} {d : DataW H} {p : List MemPlace} (hv : Value.okWide Tryd.prog w r b0 23 v) (h : DataW.Trod enc Tryd.prog w base spare held 23 v d p) :
    ∃ op rd r1 r2 n : Int, v = .agg #[.int .i64 op, .int .i64 rd, .int .i64 r1, .int .i64 r2, .int .i64 n] ∧ d = .agg [.lit (.int .i64 op), .lit (.int .i64 rd), .lit (.int .i64 r1), .lit (.int .i64 r2), .lit (.int .i64 n)] ∧ p = [] ∧
      (Lit.int .i64 op).wf = true ∧ (Lit.int .i64 rd).wf = true ∧ (Lit.int .i64 r1).wf = true ∧ (Lit.int .i64 r2).wf = true ∧ (Lit.int .i64 n).wf = true :=
  five_open Tryd.underlying23 (by kernel_rfl) cells23 Tryd.underlying3 Tryd.underlying3 Tryd.underlying3 Tryd.underlying3 Tryd.underlying2 hv h
/-- The same, shut. -/
theorem instr_shut {op rd r1 r2 n : Int} (w0 : (Lit.int .i64 op).wf = true) (w1 : (Lit.int .i64 rd).wf = true) (w2 : (Lit.int .i64 r1).wf = true) (w3 : (Lit.int .i64 r2).wf = true) (w4 : (Lit.int .i64 n).wf = true) :
    DataW.Trod enc Tryd.prog w base spare held 23 (.agg #[.int .i64 op, .int .i64 rd, .int .i64 r1, .int .i64 r2, .int .i64 n]) (.agg [.lit (.int .i64 op), .lit (.int .i64 rd), .lit (.int .i64 r1), .lit (.int .i64 r2), .lit (.int .i64 n)]) [] :=
  five_shut Tryd.underlying23 (by kernel_rfl) cells23 Tryd.underlying3 Tryd.underlying3 Tryd.underlying3 Tryd.underlying3 Tryd.underlying2 w0 w1 w2 w3 w4
end

/-- A world for the witness: the settled one, the table (block 0) holding what its initialiser lays. -/
noncomputable def laidWorld (os : Os) : World :=
  { World.holding Tryd.prog os ⟨#[], #[], []⟩ with heap := (World.holding Tryd.prog os ⟨#[], #[], []⟩).heap.modify 0 fun
      | .cells _ t frozen => .cells ((0 :: fxL).map fun z => Value.int .u32 z).toArray t frozen
      | o => o }
end Go.Proofs.YtndbkkldfinggaaDoor
