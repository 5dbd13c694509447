/- The document's tokens are the program's; two lists of tokens held against each other. -/
import Derived.Test.YtgdbfedagdlgkaaDoorH9
import Derived.Test.YtgdbfedagdlgkaaDoorD1
namespace Go.Proofs.YtgdbfedagdlgkaaDoor
open Go.RowKit Go.Shelf
set_option maxRecDepth 100000 in
set_option maxHeartbeats 4000000 in
theorem rtokens10 (s : ByteArray) (w : World) (hs : s.size ≤ 140737488355328) : Calls Tryd.prog 10 #[.string s] w (cutQ w (tokR s)) := by
  unfold tokR
  by_cases h1 : 65536 < s.size
  · rw [if_pos h1]
    go_enter Tryd.func10, Tryd.ntmps10
    go_wp2_with (go_at_call 24; refine (diag24 _ _ _ _).mono ?_; rintro e w1 ⟨rfl, hb⟩; have HB : Hid (Below _ _ w1) := hb; obtain ⟨z0, z1, z2, z3, z4⟩ := zer_cells (at_zero3 hb); clear hb)
    exact bodyPost_ret (v := .tuple #[.slice none 0 0, .agg #[.int .i64 2, .int .i64 0, .int .i64 0]]) (by simp [results, Tryd.results10, go_sem, z0, z1, z2]) rfl ⟨below_set3 HB.out _ _ _, rfl⟩
  · rw [if_neg h1]
    cases hst : stray s s.size 0 with
    | none => exact rtokens10_in s w (by omega) hst
    | some p =>
      simp only
      have hp := stray_lt _ _ _ _ hst
      have HSt : Hid (∀ W, Calls Tryd.prog 25 #[.string s] W fun e w' => e = .returned (.int .i64 (p : Nat)) ∧ w' = W) := fun W => by
        have t := strange25 s W hs
        rw [hst] at t
        exact t
      clear hst
      go_enter Tryd.func10, Tryd.ntmps10
      go_wp2_with (first | (go_at_call 25; refine (HSt.out _).mono ?_; rintro e w' ⟨rfl, rfl⟩) | (go_at_call 24; refine (diag24 _ _ _ _).mono ?_; rintro e w1 ⟨rfl, hb⟩; have HB : Hid (Below _ _ w1) := hb; obtain ⟨z0, z1, z2, z3, z4⟩ := zer_cells (at_zero3 hb); clear hb))
      exact bodyPost_ret (v := .tuple #[.slice none 0 0, .agg #[.int .i64 110, .int .i64 p, .int .i64 ((p + 1 : Nat) : Int)]]) (by simp [results, Tryd.results10, go_sem, z0, z1, z2]) rfl ⟨below_set3 HB.out _ _ _, rfl⟩
/-- A slice of tokens, wherever it lies. -/
def TkS (W : World) (v : Value) (l : List Tk) : Prop := (v = .slice none 0 0 ∧ l = []) ∨ ∃ (g c : Nat), v = .slice (some ⟨g, 0, none⟩) l.length c ∧ (l.length ≤ c ∧ c ≤ 9223372036854775807) ∧ ∀ i x, l[i]? = some x → ∀ j y, (tkc x)[j]? = some y → W.cell? ⟨g, i * 5 + j, none⟩ = some y
theorem tks_of {W : World} {B : Nat} {v : Value} {l : List Tk} (h : W.ownsRow B 42 5 v l.length (tkl l)) : TkS W v l := by
  have h' := h
  obtain ⟨_, ⟨rfl, h0⟩ | ⟨g, cap, cur, rfl, hg, hh, hn, hm, _⟩⟩ := h
  · exact .inl ⟨rfl, List.eq_nil_of_length_eq_zero h0⟩
  · refine .inr ⟨g, cap, rfl, ⟨by omega, by unfold maxLen at hm; omega⟩, fun i x hx j y hy => ?_⟩
    have hi : i < l.length := by
      rcases Nat.lt_or_ge i l.length with h | h
      · exact h
      · rw [List.getElem?_eq_none h] at hx
        cases hx
    have hj : j < 5 := by
      rcases Nat.lt_or_ge j 5 with h | h
      · exact h
      · rw [List.getElem?_eq_none (by show 5 ≤ j; exact h)] at hy
        cases hy
    rw [h'.cellAt (i * 5 + j) (by omega), tkl_at l i j hj, hx]
    exact hy
end Go.Proofs.YtgdbfedagdlgkaaDoor
