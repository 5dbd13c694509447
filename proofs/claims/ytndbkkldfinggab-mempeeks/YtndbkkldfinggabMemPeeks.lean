/- For every input: bytes are looked at and written whatever may be done to their pages, as the document says, or its error is told; nothing else of the memory changes. No condition on the input. -/
import Derived.Test.YtndbkkldfinggabG1
import Derived.Test.YtndbkkldfinggabLL
namespace Go.Proofs.Ytndbkkldfinggab
open Go.ChangeShapes Go.WideShapes Go.ChangeAt Go.RowKit Go.Deep Go.Joins
theorem own : ownKnob Try.prog.godebug = none := by kernel_rfl
theorem laidOut : laidOutB Try.prog = true := by kernel_rfl
theorem cells25 : Try.prog.cellsOf 25 = 4 := by kernel_rfl
theorem cells22 : Try.prog.cellsOf 22 = 1 := by kernel_rfl
set_option maxRecDepth 100000 in
/-- A Case, opened. -/
theorem case_open {H : Type} {enc : TypeId × Value → H} {w : World} {base : Nat} {spare : Nat → Bool} {held : Bool} {r : Reach} {b0 : Nat} {v : Value} {d : DataW H} {p : List MemPlace} (hv : Value.okWide Try.prog w r b0 25 v) (h : DataW.Trod enc Try.prog w base spare held 25 v d p) :
    ∃ (c0 : Value) (a n u : Int), v = .agg #[c0, .int .u64 a, .int .i64 n, .int .u64 u] ∧ ((Lit.int .u64 a).wf = true ∧ (Lit.int .i64 n).wf = true ∧ (Lit.int .u64 u).wf = true) ∧ ∃ (len : Nat) (k p : Nat → Int) (ao : Nat → Option Addr) (bl bc : Nat → Nat) (Y : Nat → Nat → Int), PgArg w c0 len k p ao bl bc Y := by
  obtain ⟨cs, rfl, hsz⟩ := okWide_struct Try.underlying25 hv
  obtain ⟨c0, c1, c2, c3, rfl⟩ : ∃ c0 c1 c2 c3, cs = #[c0, c1, c2, c3] := by
    have h4 := hsz.trans cells25
    obtain ⟨l⟩ := cs
    match l, h4 with
    | [c0, c1, c2, c3], _ => exact ⟨c0, c1, c2, c3, rfl⟩
  obtain ⟨fuel, hf⟩ := h
  obtain ⟨xs, m, _, hx, hl, hlen, hg⟩ := DataW.trod_struct Try.underlying25 hf
  match xs, hlen with
  | [y0, y1, y2, y3], _ =>
    have g0 := hg 0 _ rfl
    simp [Value.cells, cells22] at g0
    have g1 := hg 1 _ rfl
    simp [Value.cells, cells23] at g1
    obtain ⟨a1, e1, _, w1⟩ := DataW.trod_int Try.underlying23 g1
    simp at e1
    subst e1
    have g2 := hg 2 _ rfl
    simp [Value.cells, cells3] at g2
    obtain ⟨a2, e2, _, w2⟩ := DataW.trod_int Try.underlying3 g2
    simp at e2
    subst e2
    have g3 := hg 3 _ rfl
    simp [Value.cells, cells23] at g3
    obtain ⟨a3, e3, _, w3⟩ := DataW.trod_int Try.underlying23 g3
    simp at e3
    subst e3
    have hs : ∃ a l c, c0 = .slice a l c := by
      rcases open_slice Try.underlying22 g0 with ⟨e, _⟩ | ⟨a, len, cap, _, _, _, _, e, _⟩
      · simp at e; exact ⟨none, 0, 0, e⟩
      · simp at e; exact ⟨some a, len, cap, e⟩
    have hc : c0.cells.toList = [c0] := by obtain ⟨a, l, c, rfl⟩ := hs; rfl
    refine ⟨c0, a1, a2, a3, rfl, ⟨w1, w2, w3⟩, pages_open (enc := enc) (base := base) (spare := spare) (held := held) (d := y0.1) (ps := y0.2) ⟨m, ?_⟩ hs⟩
    first | (rw [hc]; exact g0) | simpa [hc] using g0
set_option maxRecDepth 100000 in
/-- Bytes as they come in. -/
theorem bytes_open {H : Type} {enc : TypeId × Value → H} {W : World} {base : Nat} {spare : Nat → Bool} {held : Bool} {v : Value} {d : DataW H} {ps : List MemPlace} (h : DataW.Trod enc Try.prog W base spare held 48 v d ps) (hv : ∃ a l c, v = .slice a l c) : ∃ (n : Nat) (B : Nat → Int), BArg W v n B := by
  obtain ⟨va, vl, vc, rfl⟩ := hv
  obtain ⟨fuel, hf⟩ := h
  rcases open_slice Try.underlying48 hf with ⟨e, _⟩ | ⟨a, len, cap, m, n', D, Pl, e, _, hlc, _, hm, _, hel⟩
  · simp [Value.cells] at e
    obtain ⟨rfl, rfl, rfl⟩ := e
    exact ⟨0, fun _ => 0, ⟨none, 0, rfl, Nat.le_refl _, fun h => absurd h (by omega)⟩, fun _ => ⟨by omega, by omega⟩⟩
  · simp [Value.cells] at e
    obtain ⟨rfl, rfl, rfl⟩ := e
    have hml : vl ≤ m := by rw [hm]; split <;> omega
    have key : ∀ j, j < vl → ∃ y, W.cell? (a.add j) = some (.int .u8 y) ∧ 0 ≤ y ∧ y < 256 := by
      intro j hj
      obtain ⟨cs', hc', ht'⟩ := hel j (by omega)
      rw [cells5, Nat.mul_one] at hc'
      obtain ⟨c', rfl, hcell⟩ := cells_one hc'
      obtain ⟨y, e, _, wy⟩ := DataW.trod_int Try.underlying5 ht'
      simp at e
      subst e
      exact ⟨y, hcell, u8_range wy⟩
    refine ⟨vl, fun j => btOf W a.block (a.off + j), ⟨some a, vc, rfl, hlc, fun h0 => ?_⟩, fun j => btOf_small _ _ _⟩
    obtain ⟨y, hy, _⟩ := key 0 h0
    have ea := spot_none (by simpa [Addr.add] using hy : W.cell? a = _)
    obtain ⟨g, o', s'⟩ := a
    obtain rfl : s' = none := by simpa using ea
    refine ⟨g, o', rfl, fun j hj => ?_⟩
    obtain ⟨y, hy, hr⟩ := key j hj
    rw [Addr.add_lit] at hy
    rw [hy, btOf_at hy hr]
set_option maxRecDepth 100000 in
theorem contract5 (H : Type) (enc : TypeId × Value → H) (W : World) (base : Nat) (args : Array Value) (ds gs : List (DataW H)) (before : List MemPlace)
    (hval : ∀ (j : Nat) t v, Try.f5.params[j]? = some t → args[j]? = some v → Value.okWide Try.prog W .any base t v)
    (hW : DataW.Whole enc Try.prog Try.f5.params.toList Rows.memPeeksSpec.vars false W args.toList ds gs before) :
    Calls Try.prog 5 args W fun e W' => ∃ v, e = .returned v ∧ Rows.memPeeksSpec.post enc Try.prog Try.f5 false true false false W args v W' := by
  have hW' := hW
  obtain ⟨p, q, hA0, hV, rfl, hfz, hnd⟩ := hW
  have hA : DataW.TrodAll enc Try.prog W 0 (fun _ => true) true Try.f5.params.toList args.toList ds p := hA0
  rw [Try.params5] at hA hval
  obtain ⟨v0, v1, d0, d1, p0, p1, rfl, rfl, rfl, h0, h1⟩ := trodAll_two hA
  obtain ⟨rfl, rfl⟩ := trodVars_none hV
  have h0k := h0
  have h1k := h1
  obtain ⟨c0, a, n, u, rfl, ⟨wa, _, _⟩, len, k, pp, ao, bl, bc, Y, hP⟩ := case_open (hval 0 25 v0 rfl rfl) h0
  obtain ⟨nb, B, hBA⟩ := bytes_open h1 (okWide_slice Try.underlying48 (hval 1 48 v1 rfl rfl))
  clear hA0 h0 h1
  simp only [List.append_nil] at hW'
  have hlt0 : ∀ x ∈ p0, x.block < W.heap.size := fun x hx => by have := hW'.lt x (List.mem_append.2 (.inl hx)); simpa using this
  have hlt1 : ∀ x ∈ p1, x.block < W.heap.size := fun x hx => by have := hW'.lt x (List.mem_append.2 (.inr hx)); simpa using this
  refine (law5 a n u (u64_range wa).1 (u64_range wa).2 W hP hBA).mono fun e W' ⟨he, hg⟩ => ?_
  subst he
  exact ⟨_, rfl, _, _, _, _, _, _, hW', trodAll_cons_mk (shut_bool Try.underlying4 _) trodAll_mk0, trodAll_cons_mk (Below.trod laidOut (by kernel_rfl) (of_decide_eq_true (by kernel_rfl)) h0k hg hlt0) (trodAll_cons_mk (Below.trod laidOut (by kernel_rfl) (of_decide_eq_true (by kernel_rfl)) h1k hg hlt1) trodAll_mk0), rfl, hg.frame _, fun h => by cases h⟩
set_option maxRecDepth 100000 in
theorem lifted5 (os : Os) (started : os.Started) (H : Type) (enc : TypeId × Value → H) :
    ReturnsInHanded {} Try.checked os 5 .any (Rows.memPeeksSpec.pre6 enc Try.prog Try.f5 Rows.memPeeksRow.domain false) (Rows.memPeeksSpec.post enc Try.prog Try.f5 false true false false) := by
  refine returnsInHanded_of_change (C := Try.checked) own started (by kernel_rfl) Try.func5
    (ChangeSpec.witness6 (enc := enc) (C := Try.checked) false ⟨#[], #[.agg #[.slice none 0 0, .int .u64 0, .int .i64 0, .int .u64 0], .slice none 0 0], []⟩ 8 (by kernel_rfl) (by kernel_rfl) (by kernel_rfl) (by kernel_rfl)) ?_
  intro W base args ds gs before hval hW _ _
  exact contract5 H enc W base args ds gs before hval hW
theorem memPeeks_holds : Rows.MemPeeksSaid :=
  OpenClaim.holds_of_wide 5 Try.f5 rfl rfl rfl rfl rfl rfl rfl ⟨rfl, rfl, rfl, rfl, rfl⟩ rfl rfl rfl rfl rfl (by kernel_rfl) Try.func5 (by kernel_rfl)
    (of_decide_eq_true (by kernel_rfl)) (by unfold Func.isWrapper; first | (rw [if_pos (by decide +kernel)]; kernel_rfl) | (rw [if_neg (by decide +kernel)]; exact ⟨rfl, rfl⟩))
    (fun os started H enc _ => lifted5 os started H enc)
end Go.Proofs.Ytndbkkldfinggab
