/- A node by itself: the document's own. -/
import Derived.Test.YtkkmeogehapjoaaGreatDoorR5
import Derived.Test.YtkkmeogehapjoaaGreatDoorR7
import Derived.Test.YtkkmeogehapjoaaGreatDoorR8
namespace Go.Proofs.YtkkmeogehapjoaaGreatDoor
open Go.RowKit Go.Shelf
/-- Whether kinds are of a form. -/
def fitF (v : Int) (f : List UInt8) (kk : List Int) : Bool := if f = [102, 110] then fnG v kk else if f = [98, 108, 111, 99, 107] then bkG v kk else fitG f kk
theorem frm_ok (k : Int) : ∀ f ∈ frm k, f.length ≤ 10 ∧ (f = [98, 108, 111, 99, 107] → k = 20) ∧ ∀ j : Nat, f[j]? = some 42 → j + 1 < f.length := by
  have key : ∀ f : List UInt8, f.length ≤ 10 → (∀ j : Fin 10, f[j.val]? = some 42 → j.val + 1 < f.length) → ∀ j : Nat, f[j]? = some 42 → j + 1 < f.length := fun f h1 h2 j hj => by
    have hj' : j < f.length := (List.getElem?_eq_some_iff.1 hj).1
    exact h2 ⟨j, by omega⟩ hj
  intro f hf
  unfold frm at hf
  by_cases h1 : k = 1
  · rw [if_pos h1] at hf
    simp only [List.mem_cons, List.not_mem_nil, or_false] at hf
    subst hf
    exact ⟨by decide, fun h => absurd h (by decide), key _ (by decide) (by decide)⟩
  rw [if_neg h1] at hf
  by_cases h2 : k = 2
  · rw [if_pos h2] at hf
    simp only [List.mem_cons, List.not_mem_nil, or_false] at hf
    subst hf
    exact ⟨by decide, fun h => absurd h (by decide), key _ (by decide) (by decide)⟩
  rw [if_neg h2] at hf
  by_cases h3 : k = 3
  · rw [if_pos h3] at hf
    simp only [List.mem_cons, List.not_mem_nil, or_false] at hf
    subst hf
    exact ⟨by decide, fun h => absurd h (by decide), key _ (by decide) (by decide)⟩
  rw [if_neg h3] at hf
  by_cases h4 : k = 4
  · rw [if_pos h4] at hf
    simp only [List.mem_cons, List.not_mem_nil, or_false] at hf
    subst hf
    exact ⟨by decide, fun h => absurd h (by decide), key _ (by decide) (by decide)⟩
  rw [if_neg h4] at hf
  by_cases h5 : k = 5
  · rw [if_pos h5] at hf
    simp only [List.mem_cons, List.not_mem_nil, or_false] at hf
    subst hf
    exact ⟨by decide, fun h => absurd h (by decide), key _ (by decide) (by decide)⟩
  rw [if_neg h5] at hf
  by_cases h6 : k = 6
  · rw [if_pos h6] at hf
    simp only [List.mem_cons, List.not_mem_nil, or_false] at hf
    rcases hf with rfl | rfl <;> exact ⟨by decide, fun h => absurd h (by decide), key _ (by decide) (by decide)⟩
  rw [if_neg h6] at hf
  by_cases h7 : k = 7
  · rw [if_pos h7] at hf
    simp only [List.mem_cons, List.not_mem_nil, or_false] at hf
    subst hf
    exact ⟨by decide, fun h => absurd h (by decide), key _ (by decide) (by decide)⟩
  rw [if_neg h7] at hf
  by_cases h14 : k = 14
  · rw [if_pos h14] at hf
    simp only [List.mem_cons, List.not_mem_nil, or_false] at hf
    subst hf
    exact ⟨by decide, fun h => absurd h (by decide), key _ (by decide) (by decide)⟩
  rw [if_neg h14] at hf
  by_cases h15 : k = 15
  · rw [if_pos h15] at hf
    simp only [List.mem_cons, List.not_mem_nil, or_false] at hf
    subst hf
    exact ⟨by decide, fun h => absurd h (by decide), key _ (by decide) (by decide)⟩
  rw [if_neg h15] at hf
  by_cases h16 : k = 16
  · rw [if_pos h16] at hf
    simp only [List.mem_cons, List.not_mem_nil, or_false] at hf
    subst hf
    exact ⟨by decide, fun h => absurd h (by decide), key _ (by decide) (by decide)⟩
  rw [if_neg h16] at hf
  by_cases h20 : k = 20
  · rw [if_pos h20] at hf
    simp only [List.mem_cons, List.not_mem_nil, or_false] at hf
    subst hf
    exact ⟨by decide, fun _ => h20, key _ (by decide) (by decide)⟩
  rw [if_neg h20] at hf
  by_cases h21 : k = 21
  · rw [if_pos h21] at hf
    simp only [List.mem_cons, List.not_mem_nil, or_false] at hf
    rcases hf with rfl | rfl <;> exact ⟨by decide, fun h => absurd h (by decide), key _ (by decide) (by decide)⟩
  rw [if_neg h21] at hf
  by_cases h22 : k = 22
  · rw [if_pos h22] at hf
    simp only [List.mem_cons, List.not_mem_nil, or_false] at hf
    subst hf
    exact ⟨by decide, fun h => absurd h (by decide), key _ (by decide) (by decide)⟩
  rw [if_neg h22] at hf
  by_cases h23 : k = 23
  · rw [if_pos h23] at hf
    simp only [List.mem_cons, List.not_mem_nil, or_false] at hf
    subst hf
    exact ⟨by decide, fun h => absurd h (by decide), key _ (by decide) (by decide)⟩
  rw [if_neg h23] at hf
  by_cases h24 : k = 24
  · rw [if_pos h24] at hf
    simp only [List.mem_cons, List.not_mem_nil, or_false] at hf
    subst hf
    exact ⟨by decide, fun h => absurd h (by decide), key _ (by decide) (by decide)⟩
  rw [if_neg h24] at hf
  by_cases h25 : k = 25
  · rw [if_pos h25] at hf
    simp only [List.mem_cons, List.not_mem_nil, or_false] at hf
    rcases hf with rfl | rfl <;> exact ⟨by decide, fun h => absurd h (by decide), key _ (by decide) (by decide)⟩
  rw [if_neg h25] at hf
  by_cases h34 : k = 34
  · rw [if_pos h34] at hf
    simp only [List.mem_cons, List.not_mem_nil, or_false] at hf
    subst hf
    exact ⟨by decide, fun h => absurd h (by decide), key _ (by decide) (by decide)⟩
  rw [if_neg h34] at hf
  by_cases h35 : k = 35
  · rw [if_pos h35] at hf
    simp only [List.mem_cons, List.not_mem_nil, or_false] at hf
    subst hf
    exact ⟨by decide, fun h => absurd h (by decide), key _ (by decide) (by decide)⟩
  rw [if_neg h35] at hf
  by_cases h36 : k = 36
  · rw [if_pos h36] at hf
    simp only [List.mem_cons, List.not_mem_nil, or_false] at hf
    subst hf
    exact ⟨by decide, fun h => absurd h (by decide), key _ (by decide) (by decide)⟩
  rw [if_neg h36] at hf
  by_cases h37 : k = 37
  · rw [if_pos h37] at hf
    simp only [List.mem_cons, List.not_mem_nil, or_false] at hf
    rcases hf with rfl | rfl <;> exact ⟨by decide, fun h => absurd h (by decide), key _ (by decide) (by decide)⟩
  rw [if_neg h37] at hf
  by_cases h38 : k = 38
  · rw [if_pos h38] at hf
    simp only [List.mem_cons, List.not_mem_nil, or_false] at hf
    subst hf
    exact ⟨by decide, fun h => absurd h (by decide), key _ (by decide) (by decide)⟩
  rw [if_neg h38] at hf
  by_cases h39 : k = 39
  · rw [if_pos h39] at hf
    simp only [List.mem_cons, List.not_mem_nil, or_false] at hf
    subst hf
    exact ⟨by decide, fun h => absurd h (by decide), key _ (by decide) (by decide)⟩
  rw [if_neg h39] at hf
  by_cases h40 : k = 40
  · rw [if_pos h40] at hf
    simp only [List.mem_cons, List.not_mem_nil, or_false] at hf
    subst hf
    exact ⟨by decide, fun h => absurd h (by decide), key _ (by decide) (by decide)⟩
  rw [if_neg h40] at hf
  by_cases h41 : k = 41
  · rw [if_pos h41] at hf
    simp only [List.mem_cons, List.not_mem_nil, or_false] at hf
    subst hf
    exact ⟨by decide, fun h => absurd h (by decide), key _ (by decide) (by decide)⟩
  rw [if_neg h41] at hf
  by_cases h42 : k = 42
  · rw [if_pos h42] at hf
    simp only [List.mem_cons, List.not_mem_nil, or_false] at hf
    subst hf
    exact ⟨by decide, fun h => absurd h (by decide), key _ (by decide) (by decide)⟩
  rw [if_neg h42] at hf
  by_cases h43 : k = 43
  · rw [if_pos h43] at hf
    simp only [List.mem_cons, List.not_mem_nil, or_false] at hf
    subst hf
    exact ⟨by decide, fun h => absurd h (by decide), key _ (by decide) (by decide)⟩
  rw [if_neg h43] at hf
  by_cases h44 : k = 44
  · rw [if_pos h44] at hf
    simp only [List.mem_cons, List.not_mem_nil, or_false] at hf
    subst hf
    exact ⟨by decide, fun h => absurd h (by decide), key _ (by decide) (by decide)⟩
  rw [if_neg h44] at hf
  by_cases h45 : k = 45
  · rw [if_pos h45] at hf
    simp only [List.mem_cons, List.not_mem_nil, or_false] at hf
    rcases hf with rfl | rfl <;> exact ⟨by decide, fun h => absurd h (by decide), key _ (by decide) (by decide)⟩
  rw [if_neg h45] at hf
  by_cases h46 : k = 46
  · rw [if_pos h46] at hf
    simp only [List.mem_cons, List.not_mem_nil, or_false] at hf
    subst hf
    exact ⟨by decide, fun h => absurd h (by decide), key _ (by decide) (by decide)⟩
  rw [if_neg h46] at hf
  by_cases h47 : k = 47
  · rw [if_pos h47] at hf
    simp only [List.mem_cons, List.not_mem_nil, or_false] at hf
    subst hf
    exact ⟨by decide, fun h => absurd h (by decide), key _ (by decide) (by decide)⟩
  rw [if_neg h47] at hf
  by_cases h54 : k = 54
  · rw [if_pos h54] at hf
    simp only [List.mem_cons, List.not_mem_nil, or_false] at hf
    rcases hf with rfl | rfl <;> exact ⟨by decide, fun h => absurd h (by decide), key _ (by decide) (by decide)⟩
  rw [if_neg h54] at hf
  simp only [List.mem_cons, List.not_mem_nil, or_false] at hf
  subst hf
  exact ⟨by decide, fun h => absurd h (by decide), key _ (by decide) (by decide)⟩
theorem frm_len (k : Int) : (frm k).length ≤ 2 := by
  unfold frm
  by_cases h1 : k = 1
  · rw [if_pos h1]
    decide
  rw [if_neg h1]
  by_cases h2 : k = 2
  · rw [if_pos h2]
    decide
  rw [if_neg h2]
  by_cases h3 : k = 3
  · rw [if_pos h3]
    decide
  rw [if_neg h3]
  by_cases h4 : k = 4
  · rw [if_pos h4]
    decide
  rw [if_neg h4]
  by_cases h5 : k = 5
  · rw [if_pos h5]
    decide
  rw [if_neg h5]
  by_cases h6 : k = 6
  · rw [if_pos h6]
    decide
  rw [if_neg h6]
  by_cases h7 : k = 7
  · rw [if_pos h7]
    decide
  rw [if_neg h7]
  by_cases h14 : k = 14
  · rw [if_pos h14]
    decide
  rw [if_neg h14]
  by_cases h15 : k = 15
  · rw [if_pos h15]
    decide
  rw [if_neg h15]
  by_cases h16 : k = 16
  · rw [if_pos h16]
    decide
  rw [if_neg h16]
  by_cases h20 : k = 20
  · rw [if_pos h20]
    decide
  rw [if_neg h20]
  by_cases h21 : k = 21
  · rw [if_pos h21]
    decide
  rw [if_neg h21]
  by_cases h22 : k = 22
  · rw [if_pos h22]
    decide
  rw [if_neg h22]
  by_cases h23 : k = 23
  · rw [if_pos h23]
    decide
  rw [if_neg h23]
  by_cases h24 : k = 24
  · rw [if_pos h24]
    decide
  rw [if_neg h24]
  by_cases h25 : k = 25
  · rw [if_pos h25]
    decide
  rw [if_neg h25]
  by_cases h34 : k = 34
  · rw [if_pos h34]
    decide
  rw [if_neg h34]
  by_cases h35 : k = 35
  · rw [if_pos h35]
    decide
  rw [if_neg h35]
  by_cases h36 : k = 36
  · rw [if_pos h36]
    decide
  rw [if_neg h36]
  by_cases h37 : k = 37
  · rw [if_pos h37]
    decide
  rw [if_neg h37]
  by_cases h38 : k = 38
  · rw [if_pos h38]
    decide
  rw [if_neg h38]
  by_cases h39 : k = 39
  · rw [if_pos h39]
    decide
  rw [if_neg h39]
  by_cases h40 : k = 40
  · rw [if_pos h40]
    decide
  rw [if_neg h40]
  by_cases h41 : k = 41
  · rw [if_pos h41]
    decide
  rw [if_neg h41]
  by_cases h42 : k = 42
  · rw [if_pos h42]
    decide
  rw [if_neg h42]
  by_cases h43 : k = 43
  · rw [if_pos h43]
    decide
  rw [if_neg h43]
  by_cases h44 : k = 44
  · rw [if_pos h44]
    decide
  rw [if_neg h44]
  by_cases h45 : k = 45
  · rw [if_pos h45]
    decide
  rw [if_neg h45]
  by_cases h46 : k = 46
  · rw [if_pos h46]
    decide
  rw [if_neg h46]
  by_cases h47 : k = 47
  · rw [if_pos h47]
    decide
  rw [if_neg h47]
  by_cases h54 : k = 54
  · rw [if_pos h54]
    decide
  rw [if_neg h54]
  decide
theorem fits78 (l : List Nd) (x : Nd) (ao : Option Addr) (c : Nat) (f : List UInt8) (w : World) (hl : NdS w ao c l) (hk : IsA w x.ka x.kc x.ks) (hi : Inn l x.ks) (hf : f ∈ frm x.k) (hv : nuB x.k x.v = true) : Calls Tryz.prog 78 #[.agg #[.slice ao l.length c], nwv x, .string ⟨f.toArray⟩] w fun e w' => e = .returned (.bool (fitF x.v f (x.ks.map (kdK l)))) ∧ Below w.heap.size w w' := by
  obtain ⟨h1, h2, h3⟩ := frm_ok x.k f hf
  unfold fitF
  by_cases e1 : f = [102, 110]
  · rw [if_pos e1]
    subst e1
    exact fits_fn l x ao c w hl hk hi
  rw [if_neg e1]
  by_cases e2 : f = [98, 108, 111, 99, 107]
  · rw [if_pos e2]
    have h20 := h2 e2
    subst e2
    rw [h20] at hv
    have hv' : x.v = 0 ∨ x.v = 1 := by simpa [nuB] using hv
    rcases hv' with h | h
    · exact fits_blk0 l x ao c w hl hk hi h
    · exact fits_blk1 l x ao c w hl hk hi h
  rw [if_neg e2]
  have t := fits_gen l x ao c ⟨f.toArray⟩ w hl hk hi (by simpa using e1) (by simpa using e2) (by show f.toArray.size ≤ 10; simpa using h1) (fun j hj => by
    have := h3 j (by simpa using hj)
    show j + 1 < f.toArray.size
    simpa using this)
  simpa using t
end Go.Proofs.YtkkmeogehapjoaaGreatDoor
