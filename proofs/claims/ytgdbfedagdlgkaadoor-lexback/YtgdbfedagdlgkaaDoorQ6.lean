/- Tokens as they come in; the law of what is printed. -/
import Derived.Test.YtgdbfedagdlgkaaDoorQ5
import Derived.Test.YtgdbfedagdlgkaaDoorF1
import Derived.SizedLaws
import Derived.Deep.Slices
import Derived.Deep.Strs
namespace Go.Proofs.YtgdbfedagdlgkaaDoor
open Go.ChangeShapes Go.WideShapes Go.ChangeAt Go.RowKit Go.Deep Go.Joins Go.ChangeMaps
theorem cells9 : Tryd.prog.cellsOf 9 = 1 := by kernel_rfl
theorem cells3 : Tryd.prog.cellsOf 3 = 1 := by kernel_rfl
theorem cells2 : Tryd.prog.cellsOf 2 = 1 := by kernel_rfl
theorem i64_range {a : Int} (h : (Lit.int .i64 a).wf = true) : -9223372036854775808 ≤ a ∧ a ≤ 9223372036854775807 := by
  simp [Lit.wf, IntKind.min, IntKind.max, IntKind.signed, IntKind.bits] at h
  omega
theorem spot_none {W : World} {a : Addr} {v : Value} (h : W.cell? a = some v) : a = ⟨a.block, a.off, none⟩ := by
  obtain ⟨b, o, s⟩ := a
  cases s with
  | none => rfl
  | some x =>
    unfold World.cell? at h
    split at h
    · simp at h
    · cases h
theorem cells_five {W : World} {base : Nat} {A : Addr} {cs : List Value} (h : W.cells? base A 5 = some cs) : ∃ c0 c1 c2 c3 c4, cs = [c0, c1, c2, c3, c4] ∧ W.cell? A = some c0 ∧ W.cell? (A.add 1) = some c1 ∧ W.cell? (A.add 2) = some c2 ∧ W.cell? (A.add 3) = some c3 ∧ W.cell? (A.add 4) = some c4 := by
  unfold World.cells? at h
  split at h
  · simp only [List.range_succ, List.range_zero, List.nil_append, List.cons_append, List.mapM_cons, List.mapM_nil, Option.pure_def, Option.bind_eq_bind] at h
    cases h0 : W.cell? (A.add 0) with
    | none => rw [h0] at h; simp at h
    | some c0 =>
      cases h1 : W.cell? (A.add 1) with
      | none => rw [h0, h1] at h; simp at h
      | some c1 =>
        cases h2 : W.cell? (A.add 2) with
        | none => rw [h0, h1, h2] at h; simp at h
        | some c2 =>
          cases h3 : W.cell? (A.add 3) with
          | none => rw [h0, h1, h2, h3] at h; simp at h
          | some c3 =>
            cases h4 : W.cell? (A.add 4) with
            | none => rw [h0, h1, h2, h3, h4] at h; simp at h
            | some c4 =>
              rw [h0, h1, h2, h3, h4] at h
              simp at h
              exact ⟨c0, c1, c2, c3, c4, h.symm, by simpa [Addr.add] using h0, rfl, rfl, rfl, rfl⟩
  · cases h
theorem wall_mem {H : Type} {P : Program} {e : TypeId} {d : DataW H} {n : Nat} (hn : n ∈ d.weights P e) : ∀ {ds : List (DataW H)}, d ∈ ds → n ∈ DataW.weightsAll P e ds
  | x :: r, h => by
    simp only [DataW.weightsAll, List.mem_append]
    rcases List.mem_cons.1 h with rfl | h
    · exact .inl hn
    · exact .inr (wall_mem hn h)
set_option maxRecDepth 100000 in
/-- A token's cells. -/
theorem token_open {H : Type} {enc : TypeId × Value → H} {W : World} {base : Nat} {spare : Nat → Bool} {held : Bool} {fuel : Nat} {A : Addr} {cs : List Value} {x : DataW H × List MemPlace} (hc : W.cells? base A 5 = some cs) (h : DataW.trod enc Tryd.prog W base spare held fuel 42 cs = some x) (hw : ∀ m ∈ x.1.weights Tryd.prog 42, m ≤ reachBytes) :
    ∃ y : Tj, A = ⟨A.block, A.off, none⟩ ∧ okT y ∧ ∀ j z, (tjc y)[j]? = some z → W.cell? ⟨A.block, A.off + j, none⟩ = some z := by
  obtain ⟨c0, c1, c2, c3, c4, rfl, h0, h1, h2, h3, h4⟩ := cells_five hc
  have eA := spot_none h0
  obtain ⟨b, o, s⟩ := A
  obtain rfl : s = none := by simpa using eA
  rw [Addr.add_lit] at h1 h2 h3 h4
  obtain ⟨xs, m, _, hx, hl, hlen, hg⟩ := DataW.trod_struct Tryd.underlying42 h
  match xs, hlen with
  | [y0, y1, y2, y3, y4], _ =>
    have g0 := hg 0 _ rfl
    simp [cells3] at g0
    obtain ⟨k, e0, _, w0⟩ := DataW.trod_int Tryd.underlying3 g0
    simp at e0
    subst e0
    have g1 := hg 1 _ rfl
    simp [cells9] at g1
    obtain ⟨t, e1, e1', _⟩ := DataW.trod_string Tryd.underlying9 g1
    simp at e1
    subst e1
    have g2 := hg 2 _ rfl
    simp [cells2] at g2
    obtain ⟨v, e2, _, w2⟩ := DataW.trod_int Tryd.underlying2 g2
    simp at e2
    subst e2
    have g3 := hg 3 _ rfl
    simp [cells3] at g3
    obtain ⟨f, e3, _, w3⟩ := DataW.trod_int Tryd.underlying3 g3
    simp at e3
    subst e3
    have g4 := hg 4 _ rfl
    simp [cells3] at g4
    obtain ⟨e, e4, _, w4⟩ := DataW.trod_int Tryd.underlying3 g4
    simp at e4
    subst e4
    refine ⟨⟨k, t, v, f, e⟩, rfl, ⟨?_, (i64_range w2).1, (i64_range w2).2⟩, fun j z hz => ?_⟩
    · have := hw t.data.toList.length (by
        rw [hx]
        simp only [DataW.weights, st42]
        refine DataW.weights_mem_each (j := 1) (t := 9) (d := y1.1) (by kernel_rfl) rfl _ ?_
        rw [e1']
        simp [DataW.weights])
      have := reachBytes_lt
      have := len_of t
      show t.size ≤ _
      omega
    · match j, hz with
      | 0, hz => cases hz; exact h0
      | 1, hz => cases hz; exact h1
      | 2, hz => cases hz; exact h2
      | 3, hz => cases hz; exact h3
      | 4, hz => cases hz; exact h4
      | j + 5, hz => simp [tjc] at hz
set_option maxRecDepth 100000 in
theorem toks_open {H : Type} {enc : TypeId × Value → H} {W : World} {base : Nat} {spare : Nat → Bool} {held : Bool} {v : Value} {d : DataW H} {ps : List MemPlace} (h : DataW.Trod enc Tryd.prog W base spare held 22 v d ps) (hv : ∃ a l c, v = .slice a l c) (hw : ∀ m ∈ d.weights Tryd.prog 22, m ≤ reachBytes) : ∃ l, TjA W v l := by
  obtain ⟨va, vl, vc, rfl⟩ := hv
  obtain ⟨fuel, hf⟩ := h
  rcases open_slice Tryd.underlying22 hf with ⟨e, _⟩ | ⟨a, len, cap, m, n', D, Pl, e, _, hlc, hcm, hm, hx, hel⟩
  · simp [Value.cells] at e
    obtain ⟨rfl, rfl, rfl⟩ := e
    exact ⟨[], none, 0, rfl, Nat.le_refl _, by omega, fun x hx => (by cases hx), fun h => absurd h (by simp)⟩
  · simp [Value.cells] at e
    obtain ⟨rfl, rfl, rfl⟩ := e
    have hml : vl ≤ m := by rw [hm]; split <;> omega
    have hd : d = .slice ((List.range vl).map D) ((List.range (m - vl)).map fun j => D (vl + j)) := congrArg Prod.fst hx
    have hwi : ∀ i, i < vl → ∀ m ∈ (D i).weights Tryd.prog 42, m ≤ reachBytes := fun i hi m hm => hw m (by
      rw [hd]
      simp only [DataW.weights, Tryd.underlying22]
      exact List.mem_cons_of_mem _ (List.mem_append.2 (.inl (wall_mem hm (List.mem_map.2 ⟨i, (by simpa using hi), rfl⟩)))))
    by_cases hl : 0 < vl
    · have ea : a = ⟨a.block, a.off, none⟩ := by
        obtain ⟨cs', hc', ht'⟩ := hel 0 (by omega)
        rw [cells42] at hc'
        obtain ⟨_, eA, _⟩ := token_open hc' ht' (hwi 0 hl)
        simpa [Addr.add] using eA
      obtain ⟨lb, lo, s⟩ := a
      obtain rfl : s = none := by simpa using ea
      have key : ∀ i, ∃ y : Tj, i < vl → (okT y ∧ ∀ j z, (tjc y)[j]? = some z → W.cell? ⟨lb, lo + i * 5 + j, none⟩ = some z) := by
        intro i
        by_cases hi : i < vl
        · obtain ⟨cs', hc', ht'⟩ := hel i (by omega)
          rw [cells42, Addr.add_lit] at hc'
          obtain ⟨y, _, e2, e3⟩ := token_open hc' ht' (hwi i hi)
          exact ⟨y, fun _ => ⟨e2, e3⟩⟩
        · exact ⟨⟨0, ⟨#[]⟩, 0, 0, 0⟩, fun h => absurd h hi⟩
      obtain ⟨f, hf⟩ := Classical.axiomOfChoice key
      refine ⟨(List.range vl).map f, some ⟨lb, lo, none⟩, vc, (by simp), (by simpa using hlc), (by unfold maxLen at hcm; omega), fun x hx => ?_, fun _ => ⟨lb, lo, rfl, fun i x hi j z hz => ?_⟩⟩
      · obtain ⟨i, hi, rfl⟩ := List.mem_map.1 hx
        exact (hf i (by simpa using hi)).1
      · obtain ⟨hi', rfl⟩ : i < vl ∧ f i = x := by
          rw [List.getElem?_map] at hi
          obtain ⟨i', e1, e2⟩ := Option.map_eq_some_iff.1 hi
          obtain ⟨h1, h2⟩ := List.getElem?_eq_some_iff.1 e1
          simp at h1 h2
          subst h2
          exact ⟨h1, e2⟩
        exact (hf i hi').2 j z hz
    · obtain rfl : vl = 0 := by omega
      exact ⟨[], some a, vc, rfl, hlc, (by unfold maxLen at hcm; omega), fun x hx => (by cases hx), fun h => absurd h (by simp)⟩
theorem TjA.below {W W' : World} {v : Value} {l : List Tj} (h : TjA W v l) (hb : Below W.heap.size W W') : TjA W' v l := by
  obtain ⟨ao, c, e, h1, h2, h3, h4⟩ := h
  refine ⟨ao, c, e, h1, h2, h3, fun hl => ?_⟩
  obtain ⟨g, o, e1, e2⟩ := h4 hl
  exact ⟨g, o, e1, fun i x hx j y hy => by
    have t := e2 i x hx j y hy
    rw [(bcell hb).1 g _ (World.block_lt_of_cell? _ _ t)]
    exact t⟩
set_option maxRecDepth 100000 in
set_option maxHeartbeats 4000000 in
theorem law5 (l : List Tj) (va : Value) (w : World) (hT : Tb w) (hA : TjA w va l) : Calls Tryd.prog 5 #[va] w fun e w' => e = .returned (.bool true) ∧ Below w.heap.size w w' := by
  have H17 : Hid (Calls Tryd.prog 17 #[va] w fun e w' => e = .returned (.tuple #[.string (prS l), .int .i64 (prE l)]) ∧ Below w.heap.size w w') := print17 l va w hT hA
  have H18 : Hid (∀ W, Below w.heap.size w W → Calls Tryd.prog 18 #[va] W fun e w' => e = .returned (.tuple #[.string (prS l), .int .i64 (prE l)]) ∧ Below W.heap.size W w') := fun W hW => print18 l va W (hT.below hW (Nat.le_refl _)) (hA.below hW)
  have H12 : Hid (∀ W, Below w.heap.size w W → Calls Tryd.prog 12 #[] W fun e w' => e = .returned (.bool true) ∧ Below W.heap.size W w') := fun W hW => small12 W (hT.below hW (Nat.le_refl _))
  generalize prS l = S at *
  generalize prE l = Z at *
  obtain ⟨ao, c, rfl, _⟩ := hA
  clear hT
  go_enter Tryd.func5, Tryd.ntmps5
  go_wp2_with fail
  refine H17.out.mono ?_
  rintro e w1 ⟨rfl, hb⟩
  have HB1 : Hid (Below w.heap.size w w1) := hb
  clear hb
  go_wp2_with fail
  refine (H18.out _ HB1.out).mono ?_
  rintro e w2 ⟨rfl, hb⟩
  have HB2 : Hid (Below w.heap.size w w2) := HB1.out.trans (hb.mono HB1.out.size)
  clear hb
  go_wp2_with fail
  refine (H12.out _ HB2.out).mono ?_
  rintro e w3 ⟨rfl, hb⟩
  have HB3 : Hid (Below w.heap.size w w3) := HB2.out.trans (hb.mono HB2.out.size)
  clear hb
  go_wp2
  go_ret
  exact ⟨rfl, HB3.out⟩
end Go.Proofs.YtgdbfedagdlgkaaDoor
