/- A number of eight bytes and its halves: plain facts. -/
import Derived.Test.YtndbkkldfinggabF5
import Derived.Test.YtndbkkldfinggabP4
namespace Go.Proofs.Ytndbkkldfinggab
open Go.RowKit Go.Shelf
def u1 (perm : Int) : Option Pgd → Int
  | none => 20
  | some x => e1 x perm
def u2 (perm : Int) (o o' : Option Pgd) : Int := match o with
  | none => 20
  | some x => match o' with
    | none => 20
    | some y => e2 x y perm
theorem u2_zero (perm : Int) (o o' : Option Pgd) : u2 perm o o' = 0 ↔ u1 perm o = 0 ∧ u1 perm o' = 0 := by
  rcases o with _ | x <;> rcases o' with _ | y <;> simp only [u1, u2]
  · simp
  · simp
  · simp
  · unfold e2
    have : e1 y perm = if badP y perm then 21 else 0 := rfl
    rw [this]
    cases badP y perm <;> simp
theorem use_one {ps : List Pgd} {a n perm : Int} (h : a + n ≤ bs a + 4096) : useE ps a n perm = u1 perm (pg ps (bs a)) := by
  unfold useE u1
  cases pg ps (bs a) with
  | none => rfl
  | some x => simp only []; rw [if_pos h]
theorem use_two {ps : List Pgd} {a n perm : Int} (h : ¬ a + n ≤ bs a + 4096) : useE ps a n perm = u2 perm (pg ps (bs a)) (pg ps (bs a + 4096)) := by
  unfold useE u2
  cases pg ps (bs a) with
  | none => rfl
  | some x => simp only []; rw [if_neg h]; cases pg ps (bs a + 4096) <;> rfl
theorem use_halves (ps : List Pgd) (a perm : Int) (a0 : 0 ≤ a) : useE ps a ((8 : Nat) : Int) perm = 0 ↔ useE ps a ((4 : Nat) : Int) perm = 0 ∧ useE ps (a + 4) ((4 : Nat) : Int) perm = 0 := by
  obtain ⟨f0, f1, f2, f3⟩ := bs_facts a0
  by_cases h8 : a + ((8 : Nat) : Int) ≤ bs a + 4096
  · have e : bs (a + 4) = bs a := by unfold bs at *; omega
    rw [use_one h8, use_one (n := ((4 : Nat) : Int)) (by omega), use_one (a := a + 4) (by rw [e]; omega), e]
    simp
  · rw [use_two h8, u2_zero]
    by_cases h4 : a + ((4 : Nat) : Int) ≤ bs a + 4096
    · rw [use_one h4]
      by_cases hm : a + 4 = bs a + 4096
      · have e : bs (a + 4) = bs a + 4096 := by unfold bs at *; omega
        rw [use_one (a := a + 4) (by rw [e]; omega), e]
      · have e : bs (a + 4) = bs a := by unfold bs at *; omega
        rw [use_two (a := a + 4) (by rw [e]; omega), e, u2_zero]
        constructor
        · rintro ⟨x, y⟩; exact ⟨x, x, y⟩
        · rintro ⟨x, _, y⟩; exact ⟨x, y⟩
    · have e : bs (a + 4) = bs a + 4096 := by unfold bs at *; omega
      rw [use_two h4, u2_zero, use_one (a := a + 4) (by rw [e]; omega), e]
      constructor
      · rintro ⟨x, y⟩; exact ⟨⟨x, y⟩, y⟩
      · rintro ⟨⟨x, y⟩, _⟩; exact ⟨x, y⟩
theorem byts_bytes {W : World} {b r : Nat} {ps : List Pgd} {bt : Nat → Nat → Int} (h : Mm W b r ps bt) (a : Int) (n : Nat) : isBytes (byts ps bt a n) := fun x hx => by
  obtain ⟨j, _, rfl⟩ := List.mem_map.1 hx
  exact h.small _ _
theorem sum_halves (ps : List Pgd) (bt : Nat → Nat → Int) (a : Int) : sumV (byts ps bt a 8) = sumV (byts ps bt a 4) + 4294967296 * sumV (byts ps bt (a + 4) 4) := by
  rw [byts_add ps bt a 4 4, sumV_append, byts_len]
  rfl
theorem sum_small {W : World} {b r : Nat} {ps : List Pgd} {bt : Nat → Nat → Int} (h : Mm W b r ps bt) (a : Int) : 0 ≤ sumV (byts ps bt a 4) ∧ sumV (byts ps bt a 4) < 4294967296 := by
  have t := sumV_bound _ (byts_bytes h a 4)
  rw [byts_len] at t
  exact ⟨t.1, by have := t.2; simpa using this⟩
end Go.Proofs.Ytndbkkldfinggab
