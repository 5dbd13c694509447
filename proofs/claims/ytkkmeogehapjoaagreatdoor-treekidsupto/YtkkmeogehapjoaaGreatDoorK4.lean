/- A part that grows: what it owns. -/
import Derived.Test.YtkkmeogehapjoaaGreatDoorK3
import Derived.Laws.OwnMore
namespace Go.Proofs.YtkkmeogehapjoaaGreatDoor
open Go.RowKit Go.Shelf
theorem own_keep {w w' : World} {base : Nat} {e : TypeId} {size : Nat} {v : Value} {n : Nat} {xs : List Value} (h : w.ownsRow base e size v n xs) (hk : ∀ g, v.ownBlock = some g → w'.heap[g]? = w.heap[g]?) : w'.ownsRow base e size v n xs := by
  obtain ⟨h1, h2⟩ := h
  refine ⟨h1, ?_⟩
  rcases h2 with h | ⟨g, cap, cur, e1, e2, e3, r⟩
  · exact .inl h
  · exact .inr ⟨g, cap, cur, e1, e2, by rw [hk g (by rw [e1]; rfl)]; exact e3, r⟩
theorem own_block {w : World} {base : Nat} {e : TypeId} {size : Nat} {v : Value} {n : Nat} {xs : List Value} (h : w.ownsRow base e size v n xs) {g : Nat} (hg : v.ownBlock = some g) : ∃ cur, w.heap[g]? = some (.cells cur e (0, 0)) ∧ base ≤ g ∧ g < w.heap.size := by
  obtain ⟨h1, h2⟩ := h
  rcases h2 with h | ⟨g', cap, cur, e1, e2, e3, r⟩
  · rw [h.1] at hg
    cases hg
  · rw [e1] at hg
    cases hg
    exact ⟨cur, e3, e2, (Array.getElem?_eq_some_iff.1 e3).1⟩
theorem isa_of_own {w : World} {base : Nat} {a : Option Addr} {c : Nat} {l : List Int} (h : w.ownsRow base 3 1 (.slice a l.length c) l.length (l.map (Value.int .i64))) : IsA w a c l := by
  have h' := h
  obtain ⟨h1, ⟨h, h0⟩ | ⟨g, cap, cur, e1, e2, e3, e4, e5, r⟩⟩ := h
  · simp only [Value.slice.injEq] at h
    obtain ⟨_, _, rfl⟩ := h
    exact ⟨by omega, by decide, fun h => absurd h (by omega)⟩
  · cases e1
    refine ⟨e4, by unfold maxLen at e5; omega, fun hl => ⟨g, 0, rfl, fun j y hy => ?_⟩⟩
    have hj : j < l.length := (List.getElem?_eq_some_iff.1 hy).1
    rw [Nat.zero_add, h'.cellAt j (by omega), List.getElem?_map, hy]
    rfl
/-- A node's kids, in a row of its own. -/
def KidsO (b gP : Nat) (w : World) (x : Nd) : Prop := w.ownsRow b 3 1 (.slice x.ka x.ks.length x.kc) x.ks.length (x.ks.map (Value.int .i64)) ∧ (Value.slice x.ka x.ks.length x.kc).ownBlock ≠ some gP
/-- What Sub keeps, of the nodes so far. -/
structure SubS (w : World) (gP gB : Nat) (bs : List Bool) (n : Nat) (P : List Int) (Q : List Nd) (vp : Value) (wx : World) : Prop where
  bl : Below w.heap.size w wx
  pl : Blk wx gP P
  pn : P.length = n + 1
  pb : w.heap.size ≤ gP
  bb : BlB wx gB bs
  rb : wx.heap[w.heap.size + 1]? = some (.cells #[.slice none 0 0] 24 (0, 0))
  ow : wx.ownsRow w.heap.size 53 6 vp Q.length (Q.flatMap ndc)
  kd : ∀ x ∈ Q, KidsO w.heap.size gP wx x
theorem flat_ndc (Q : List Nd) : (Q.flatMap ndc).length = Q.length * 6 := by
  induction Q with
  | nil => rfl
  | cons x r ih =>
    rw [List.flatMap_cons, List.length_append, ih]
    simp [ndc]
    omega
theorem flat_at : ∀ (Q : List Nd) (i : Nat) (x : Nd) (j : Nat) (y : Value), Q[i]? = some x → (ndc x)[j]? = some y → (Q.flatMap ndc)[i * 6 + j]? = some y
  | q :: r, 0, x, j, y, hx, hy => by
    simp at hx
    subst hx
    rw [List.flatMap_cons, Nat.zero_mul, Nat.zero_add, List.getElem?_append_left ((List.getElem?_eq_some_iff.1 hy).1)]
    exact hy
  | q :: r, i + 1, x, j, y, hx, hy => by
    rw [List.flatMap_cons, List.getElem?_append_right (by simp [ndc]; omega)]
    rw [show (i + 1) * 6 + j - (ndc q).length = i * 6 + j by simp [ndc]; omega]
    exact flat_at r i x j y (by simpa using hx) hy
  | [], i, x, j, y, hx, _ => by simp at hx
theorem SubS.nds {w : World} {gP gB : Nat} {bs : List Bool} {n : Nat} {P : List Int} {Q : List Nd} {vp : Value} {wx : World} (h : SubS w gP gB bs n P Q vp wx) : ∃ qo qc, vp = .slice qo Q.length qc ∧ NdS wx qo qc Q := by
  have ho := h.ow
  obtain ⟨h1, ⟨h2, h0⟩ | ⟨g, cap, cur, e1, e2, e3, e4, e5, r⟩⟩ := h.ow
  · refine ⟨none, 0, by rw [h2, h0], by omega, by omega, fun x hx => isa_of_own (h.kd x hx).1, fun hl => absurd hl (by omega)⟩
  · subst e1
    refine ⟨_, cap, rfl, e4, by unfold maxLen at e5; omega, fun x hx => isa_of_own (h.kd x hx).1, fun hl => ⟨g, 0, rfl, fun i x hi j y hy => ?_⟩⟩
    have hi' : i < Q.length := (List.getElem?_eq_some_iff.1 hi).1
    have hj : j < 6 := by have t := (List.getElem?_eq_some_iff.1 hy).1; simpa [ndc] using t
    rw [Nat.zero_add, ho.cellAt (i * 6 + j) (by omega)]
    exact flat_at Q i x j y hi hy
theorem clone36 (ks : List Int) (ka : Option Addr) (kc : Nat) (W : World) (h : IsA W ka kc ks) (hb : ks.length ≤ 1048576) : Calls Tryz.prog 36 #[.slice ka ks.length kc] W fun e w' => ∃ a c, e = .returned (.slice a ks.length c) ∧ w'.ownsRow W.heap.size 3 1 (.slice a ks.length c) ks.length (ks.map (Value.int .i64)) ∧ Below W.heap.size W w' := by
  have form : ∀ (w' : World) (v' : Value) (n : Nat) (xs : List Value), w'.ownsRow W.heap.size 3 1 v' n xs → ∃ a c, v' = .slice a n c := fun w' v' n xs ho => by
    obtain ⟨_, ⟨e, e0⟩ | ⟨g, cap, cur, e, _⟩⟩ := ho
    · exact ⟨none, 0, by rw [e, e0]⟩
    · exact ⟨_, _, e⟩
  by_cases h0 : ks.length = 0
  · have e0 : ks = [] := List.eq_nil_of_length_eq_zero h0
    subst e0
    cases ka with
    | none => exact (Tryz.slices_Clone_int_nil 0 kc W).mono fun e w' ⟨p, q⟩ => ⟨none, 0, p, by rw [q]; exact World.ownsRow_nil _ _ _ _, by rw [q]; exact Below.refl _ _⟩
    | some a =>
      refine (Tryz.slices_Clone_int_zero a kc W).mono ?_
      rintro e w' ⟨v', p, q, _, r⟩
      obtain ⟨a, c, rfl⟩ := form w' v' _ _ q
      exact ⟨a, c, p, q, r⟩
  · obtain ⟨g, o, rfl, hc⟩ := h.2.2 (by omega)
    have t := Tryz.slices_Clone_int g o ks.length kc ks W (Nat.le_refl _) (by omega) (fun j hj => hc j _ (by simp [List.getD, hj]))
    rw [List.take_length] at t
    refine t.mono ?_
    rintro e w' ⟨v', p, q, _, r⟩
    obtain ⟨a, c, rfl⟩ := form w' v' _ _ q
    exact ⟨a, c, p, q, r⟩
end Go.Proofs.YtkkmeogehapjoaaGreatDoor
