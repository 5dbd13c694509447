/- For every input: new pages are there, all 0, where the document says that they can be made, or its error is told and the memory stays as it was. No condition on the input. -/
import Derived.Test.YtndbkkldfinggabG1
import Derived.Test.YtndbkkldfinggabKK
namespace Go.Proofs.Ytndbkkldfinggab
open Go.ChangeShapes Go.WideShapes Go.ChangeAt Go.RowKit Go.Deep Go.Joins
theorem own : ownKnob Try.prog.godebug = none := by kernel_rfl
theorem laidOut : laidOutB Try.prog = true := by kernel_rfl
theorem cells58 : Try.prog.cellsOf 58 = 4 := by kernel_rfl
theorem cells22 : Try.prog.cellsOf 22 = 1 := by kernel_rfl
set_option maxRecDepth 100000 in
/-- What is mapped, opened. -/
theorem case_open {H : Type} {enc : TypeId × Value → H} {w : World} {base : Nat} {spare : Nat → Bool} {held : Bool} {r : Reach} {b0 : Nat} {v : Value} {d : DataW H} {p : List MemPlace} (hv : Value.okWide Try.prog w r b0 58 v) (h : DataW.Trod enc Try.prog w base spare held 58 v d p) :
    ∃ (c0 : Value) (a n u : Int), v = .agg #[c0, .int .u64 a, .int .i64 n, .int .u64 u] ∧ ((Lit.int .u64 a).wf = true ∧ (Lit.int .i64 n).wf = true ∧ (Lit.int .u64 u).wf = true) ∧ ∃ (len : Nat) (k p : Nat → Int) (ao : Nat → Option Addr) (bl bc : Nat → Nat) (Y : Nat → Nat → Int), PgArg w c0 len k p ao bl bc Y := by
  obtain ⟨cs, rfl, hsz⟩ := okWide_struct Try.underlying58 hv
  obtain ⟨c0, c1, c2, c3, rfl⟩ : ∃ c0 c1 c2 c3, cs = #[c0, c1, c2, c3] := by
    have h4 := hsz.trans cells58
    obtain ⟨l⟩ := cs
    match l, h4 with
    | [c0, c1, c2, c3], _ => exact ⟨c0, c1, c2, c3, rfl⟩
  obtain ⟨fuel, hf⟩ := h
  obtain ⟨xs, m, _, hx, hl, hlen, hg⟩ := DataW.trod_struct Try.underlying58 hf
  match xs, hlen with
  | [y0, y1, y2, y3], _ =>
    have g0 := hg 0 _ rfl
    simp [Value.cells, cells22] at g0
    have g1 := hg 1 _ rfl
    simp [Value.cells, cells23] at g1
    obtain ⟨a1, e1, _, w1⟩ := DataW.trod_int Try.underlying23 g1
    simp at e1
    subst e1
    have g2 := hg 2 _ rfl
    simp [Value.cells, cells3] at g2
    obtain ⟨a2, e2, _, w2⟩ := DataW.trod_int Try.underlying3 g2
    simp at e2
    subst e2
    have g3 := hg 3 _ rfl
    simp [Value.cells, cells23] at g3
    obtain ⟨a3, e3, _, w3⟩ := DataW.trod_int Try.underlying23 g3
    simp at e3
    subst e3
    have hs : ∃ a l c, c0 = .slice a l c := by
      rcases open_slice Try.underlying22 g0 with ⟨e, _⟩ | ⟨a, len, cap, _, _, _, _, e, _⟩
      · simp at e; exact ⟨none, 0, 0, e⟩
      · simp at e; exact ⟨some a, len, cap, e⟩
    have hc : c0.cells.toList = [c0] := by obtain ⟨a, l, c, rfl⟩ := hs; rfl
    refine ⟨c0, a1, a2, a3, rfl, ⟨w1, w2, w3⟩, pages_open (enc := enc) (base := base) (spare := spare) (held := held) (d := y0.1) (ps := y0.2) ⟨m, ?_⟩ hs⟩
    first | (rw [hc]; exact g0) | simpa [hc] using g0
set_option maxRecDepth 100000 in
theorem contract6 (H : Type) (enc : TypeId × Value → H) (W : World) (base : Nat) (args : Array Value) (ds gs : List (DataW H)) (before : List MemPlace)
    (hval : ∀ (j : Nat) t v, Try.f6.params[j]? = some t → args[j]? = some v → Value.okWide Try.prog W .any base t v)
    (hW : DataW.Whole enc Try.prog Try.f6.params.toList Rows.memMappedSpec.vars false W args.toList ds gs before) :
    Calls Try.prog 6 args W fun e W' => ∃ v, e = .returned v ∧ Rows.memMappedSpec.post enc Try.prog Try.f6 false true false false W args v W' := by
  have hW' := hW
  obtain ⟨p, q, hA0, hV, rfl, hfz, hnd⟩ := hW
  have hA : DataW.TrodAll enc Try.prog W 0 (fun _ => true) true Try.f6.params.toList args.toList ds p := hA0
  rw [Try.params6] at hA hval
  obtain ⟨v0, d0, rfl, rfl, h0⟩ := trodAll_one hA
  obtain ⟨rfl, rfl⟩ := trodVars_none hV
  have h0k := h0
  obtain ⟨c0, a, n, u, rfl, ⟨wa, _, wu⟩, len, k, pp, ao, bl, bc, Y, hP⟩ := case_open (hval 0 58 v0 rfl rfl) h0
  clear hA0 h0
  simp only [List.append_nil] at hW'
  have hlt : ∀ x ∈ p, x.block < W.heap.size := fun x hx => by simpa using hW'.lt x hx
  refine (law6 a n u (u64_range wa).1 (u64_range wa).2 (u64_range wu).1 (u64_range wu).2 W hP).mono fun e W' ⟨he, hg⟩ => ?_
  subst he
  exact ⟨_, rfl, _, _, _, _, _, _, hW', trodAll_cons_mk (shut_bool Try.underlying4 _) trodAll_mk0, trodAll_cons_mk (Below.trod laidOut (by kernel_rfl) (of_decide_eq_true (by kernel_rfl)) h0k hg hlt) trodAll_mk0, rfl, hg.frame _, fun h => by cases h⟩
set_option maxRecDepth 100000 in
theorem lifted6 (os : Os) (started : os.Started) (H : Type) (enc : TypeId × Value → H) :
    ReturnsInHanded {} Try.checked os 6 .any (Rows.memMappedSpec.pre6 enc Try.prog Try.f6 Rows.memMappedRow.domain false) (Rows.memMappedSpec.post enc Try.prog Try.f6 false true false false) := by
  refine returnsInHanded_of_change (C := Try.checked) own started (by kernel_rfl) Try.func6
    (ChangeSpec.witness6 (enc := enc) (C := Try.checked) false ⟨#[], #[.agg #[.slice none 0 0, .int .u64 0, .int .i64 0, .int .u64 0]], []⟩ 8 (by kernel_rfl) (by kernel_rfl) (by kernel_rfl) (by kernel_rfl)) ?_
  intro W base args ds gs before hval hW _ _
  exact contract6 H enc W base args ds gs before hval hW
theorem memMapped_holds : Rows.MemMappedSaid :=
  OpenClaim.holds_of_wide 6 Try.f6 rfl rfl rfl rfl rfl rfl rfl ⟨rfl, rfl, rfl, rfl, rfl⟩ rfl rfl rfl rfl rfl (by kernel_rfl) Try.func6 (by kernel_rfl)
    (of_decide_eq_true (by kernel_rfl)) (by unfold Func.isWrapper; first | (rw [if_pos (by decide +kernel)]; kernel_rfl) | (rw [if_neg (by decide +kernel)]; exact ⟨rfl, rfl⟩))
    (fun os started H enc _ => lifted6 os started H enc)
end Go.Proofs.Ytndbkkldfinggab
