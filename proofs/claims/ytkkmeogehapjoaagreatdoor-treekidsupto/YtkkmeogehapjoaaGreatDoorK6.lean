/- The part below the last node is the tree; trees alike in all, places too. -/
import Derived.Test.YtkkmeogehapjoaaGreatDoorK5
namespace Go.Proofs.YtkkmeogehapjoaaGreatDoor
open Go.RowKit Go.Shelf
theorem bKids_get : ∀ (ks : List Int) (b : List Bool) (i : Nat), i < b.length → (b.getD i false = true ∨ (i : Int) ∈ ks) → (bKids ks b).getD i false = true
  | [], b, i, hi, h => by
    rcases h with h | h
    · exact h
    · cases h
  | y :: r, b, i, hi, h => by
    rw [bKids]
    refine bKids_get r _ i (by rw [List.length_set]; exact hi) ?_
    by_cases e : i = y.toNat
    · subst e
      left
      simp [List.getD, hi]
    · have t : (b.set y.toNat true).getD i false = b.getD i false := by simp [List.getD, Ne.symm e]
      rcases h with h | h
      · left
        rw [t]
        exact h
      · rcases List.mem_cons.1 h with h | h
        · exact absurd (by rw [← h]; rfl) e
        · exact .inr h
/-- All nodes stand below the last one. -/
theorem bAll_true {l : List Nd} {p : List Int} (hpin : Pin l p) (hups : Ups p) (hpl : p.length = l.length) : ∀ (k : Nat) (b : List Bool), b.length = l.length → k ≤ l.length → (∀ i, i < l.length → (i + 1 = l.length ∨ (k : Int) ≤ p.getD i 0) → b.getD i false = true) → ∀ i, i < l.length → (bAll l k b).getD i false = true
  | 0, b, hb, _, hI, i, hi => by
    rw [bAll]
    refine hI i hi ?_
    by_cases e : i + 1 = l.length
    · exact .inl e
    · have := hups i (by omega)
      exact .inr (by omega)
  | k + 1, b, hb, hk, hI, i, hi => by
    rw [bAll]
    have hkb : b.getD k false = true := by
      refine hI k (by omega) ?_
      by_cases e : k + 1 = l.length
      · exact .inl e
      · have := hups k (by omega)
        exact .inr (by omega)
    rw [if_pos hkb]
    refine bAll_true hpin hups hpl k _ (by rw [bKids_len]; exact hb) (by omega) (fun i hi h => ?_) i hi
    refine bKids_get _ _ i (by omega) ?_
    by_cases e : p.getD i 0 = (k : Int) ∧ ¬ i + 1 = l.length
    · right
      rcases hpin i (by omega) with h' | ⟨k', x, e1, e2, e3⟩
      · omega
      · obtain rfl : k' = k := by omega
        unfold ksAt
        rw [e2]
        exact e3
    · left
      refine hI i hi ?_
      rcases h with h | h
      · exact .inl h
      · by_cases e2 : i + 1 = l.length
        · exact .inl e2
        · right
          have : ¬ p.getD i 0 = (k : Int) := fun h' => e ⟨h', e2⟩
          omega
theorem blw_last {l : List Nd} {p : List Int} (h : parR l = some p) (hc : (p.take (l.length - 1)).contains (-1) = false) (h0 : 1 ≤ l.length) : ∀ i, i < l.length → (blwR l (l.length - 1)).getD i false = true := by
  have hl : l.length - 1 + 1 = l.length := by omega
  unfold blwR
  rw [hl]
  refine bAll_true (par_pin h) (ups_of h hc) (parR_some h).1 l.length _ (by simp) (Nat.le_refl _) (fun i hi hh => ?_)
  rcases hh with e | e
  · obtain rfl : i = l.length - 1 := by omega
    simp [List.getD, hi]
  · have hp := (parR_some h)
    rcases hp.2.1 i (by omega) with e2 | e2
    · omega
    · omega
/-- Places that are the nodes' own. -/
def Own (k : Nat) (P : List Int) : Prop := ∀ i, i < k → P.getD i 0 = (i : Int)
theorem mapK_own {k : Nat} {P : List Int} (h : Own k P) {ks : List Int} (hk : ∀ y ∈ ks, 0 ≤ y ∧ y < (k : Int)) : mapK P ks = ks := by
  unfold mapK
  conv => rhs; rw [← List.map_id ks]
  apply List.map_congr_left
  intro y hy
  obtain ⟨h0, h1⟩ := hk y hy
  have := h y.toNat (by omega)
  rw [this]
  show ((y.toNat : Nat) : Int) = y
  omega
theorem sAll_own {L : List Nd} (hK : Kin L) {bs : List Bool} (hb : ∀ i, i < L.length → bs.getD i false = true) : ∀ (l : List Nd) (k : Nat) (P : List Int) (Q : List Nd), L.drop k = l → Own k P → Q = (L.take k).map pu → k + l.length = L.length → L.length ≤ P.length → sAll bs k l P Q = L.map pu
  | [], k, P, Q, hd, _, hQ, hk, _ => by
    rw [sAll, hQ, List.take_of_length_le (by simp at hk; omega)]
  | x :: r, k, P, Q, hd, hP, hQ, hk, hPl => by
    simp only [List.length_cons] at hk
    have hx : L[k]? = some x := by
      have t : (L.drop k)[0]? = some x := by rw [hd]; rfl
      rw [List.getElem?_drop] at t
      simpa using t
    have hql : Q.length = k := by rw [hQ, List.length_map, List.length_take]; omega
    rw [sAll, if_pos (hb k (by omega))]
    refine sAll_own hK hb r (k + 1) _ _ ?_ ?_ ?_ (by omega) (by rw [List.length_set]; exact hPl)
    · rw [← List.tail_drop, hd]
      rfl
    · intro i hi
      rw [hql]
      by_cases e : i = k
      · subst e
        have : i < P.length := by omega
        simp [List.getD, this]
      · have t : (P.set k (k : Int)).getD i 0 = P.getD i 0 := by simp [List.getD, Ne.symm e]
        rw [t]
        exact hP i (by omega)
    · rw [mapK_own hP (hK k x hx), hQ, List.take_add_one, hx, List.map_append]
      rfl
/-- The part below the last node is the tree. -/
theorem sub_last {l : List Nd} (hr : rightB l = true) : subR l (l.length - 1) = l.map pu := by
  obtain ⟨p, hp, hc⟩ := right_par hr
  have h01 := right_len hr
  have hl : l.length - 1 + 1 = l.length := by omega
  unfold subR
  rw [hl, List.take_length]
  exact sAll_own (par_kin hp) (blw_last hp hc h01.1) l 0 _ [] rfl (fun i hi => absurd hi (Nat.not_lt_zero _)) rfl (by omega) (by simp)
end Go.Proofs.YtkkmeogehapjoaaGreatDoor
