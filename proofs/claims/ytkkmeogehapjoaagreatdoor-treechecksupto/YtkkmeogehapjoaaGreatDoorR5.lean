/- Forms of kids: the document's own. -/
import Derived.Test.YtkkmeogehapjoaaGreatDoorRR
namespace Go.Proofs.YtkkmeogehapjoaaGreatDoor
open Go.RowKit Go.Shelf
/-- Texts in memory. -/
def StA (w : World) (g : Nat) (l : List (List UInt8)) : Prop := ∀ (j : Nat) f, l[j]? = some f → w.cell? ⟨g, j, none⟩ = some (.string ⟨f.toArray⟩)
theorem StA.below {W W' : World} {g : Nat} {l : List (List UInt8)} (h : StA W g l) (hb : Below W.heap.size W W') : StA W' g l := fun j f hf => by
  have t := h j f hf
  rw [(bcell hb).1 g _ (World.block_lt_of_cell? _ _ t)]
  exact t
theorem sta_one (W : World) (a : List UInt8) : StA (W.alloc (.cells #[.string ⟨a.toArray⟩] 9)) W.heap.size [a] := fun j f hf => by
  match j, hf with
  | 0, hf => cases hf; simp
  | j + 1, hf => simp at hf
theorem sta_two (W : World) (a b : List UInt8) : StA (W.alloc (.cells #[.string ⟨a.toArray⟩, .string ⟨b.toArray⟩] 9)) W.heap.size [a, b] := fun j f hf => by
  match j, hf with
  | 0, hf => cases hf; simp
  | 1, hf => cases hf; simp
  | j + 2, hf => simp at hf
/-- The forms of a kind's kids. -/
def frm (k : Int) : List (List UInt8) :=
  if k = 1 then [[42, 73]] else
  if k = 2 then [[102, 110]] else
  if k = 3 then [[42, 70]] else
  if k = 4 then [[42, 86]] else
  if k = 5 then [[84]] else
  if k = 6 then [[], [84]] else
  if k = 7 then [[84]] else
  if k = 14 then [[84]] else
  if k = 15 then [[84]] else
  if k = 16 then [[84]] else
  if k = 20 then [[98, 108, 111, 99, 107]] else
  if k = 21 then [[69], [84, 69]] else
  if k = 22 then [[69]] else
  if k = 23 then [[69, 69]] else
  if k = 24 then [[69, 66]] else
  if k = 25 then [[], [69]] else
  if k = 34 then [[42, 69]] else
  if k = 35 then [[42, 74]] else
  if k = 36 then [[69]] else
  if k = 37 then [[], [69]] else
  if k = 38 then [[69, 69]] else
  if k = 39 then [[69]] else
  if k = 40 then [[69]] else
  if k = 41 then [[69]] else
  if k = 42 then [[69]] else
  if k = 43 then [[69]] else
  if k = 44 then [[69]] else
  if k = 45 then [[69, 66], [69, 66, 88]] else
  if k = 46 then [[69, 42, 65]] else
  if k = 47 then [[80, 69]] else
  if k = 54 then [[], [80]] else
  [[]]
set_option maxRecDepth 100000 in
set_option maxHeartbeats 8000000 in
theorem forms77 (x : Nd) (w : World) : Calls Tryz.prog 77 #[nwv x] w fun e w' => ∃ g, e = .returned (.slice (some ⟨g, 0, none⟩) (frm x.k).length (frm x.k).length) ∧ StA w' g (frm x.k) ∧ Below w.heap.size w w' := by
  unfold nwv frm
  obtain ⟨xk, xn, xv, xa, xc, xs, xf, xe⟩ := x
  simp only at *
  generalize xs.length = m at *
  by_cases h1 : xk = 1
  · subst h1
    simp only [Int.reduceEq, if_true, if_false]
    go_enter Tryz.func77, Tryz.ntmps77
    go_wp2
    go_ret
    exact ⟨w.heap.size + 1, rfl, by have t := sta_one (w.alloc (.cells #[.int .i64 1, .string xn, .int .i64 xv, .slice xa m xc, .int .i64 xf, .int .i64 xe] 53)) [42, 73]; simpa using t, ((Below.refl _ w).alloc (Nat.le_refl _) _).alloc (by simp) _⟩
  rw [if_neg h1]
  have e1 : (xk == 1) = false := by simpa using h1
  by_cases h2 : xk = 2
  · subst h2
    simp only [Int.reduceEq, if_true, if_false]
    go_enter Tryz.func77, Tryz.ntmps77
    go_wp2
    go_ret
    exact ⟨w.heap.size + 1, rfl, by have t := sta_one (w.alloc (.cells #[.int .i64 2, .string xn, .int .i64 xv, .slice xa m xc, .int .i64 xf, .int .i64 xe] 53)) [102, 110]; simpa using t, ((Below.refl _ w).alloc (Nat.le_refl _) _).alloc (by simp) _⟩
  rw [if_neg h2]
  have e2 : (xk == 2) = false := by simpa using h2
  by_cases h3 : xk = 3
  · subst h3
    simp only [Int.reduceEq, if_true, if_false]
    go_enter Tryz.func77, Tryz.ntmps77
    go_wp2
    go_ret
    exact ⟨w.heap.size + 1, rfl, by have t := sta_one (w.alloc (.cells #[.int .i64 3, .string xn, .int .i64 xv, .slice xa m xc, .int .i64 xf, .int .i64 xe] 53)) [42, 70]; simpa using t, ((Below.refl _ w).alloc (Nat.le_refl _) _).alloc (by simp) _⟩
  rw [if_neg h3]
  have e3 : (xk == 3) = false := by simpa using h3
  by_cases h4 : xk = 4
  · subst h4
    simp only [Int.reduceEq, if_true, if_false]
    go_enter Tryz.func77, Tryz.ntmps77
    go_wp2
    go_ret
    exact ⟨w.heap.size + 1, rfl, by have t := sta_one (w.alloc (.cells #[.int .i64 4, .string xn, .int .i64 xv, .slice xa m xc, .int .i64 xf, .int .i64 xe] 53)) [42, 86]; simpa using t, ((Below.refl _ w).alloc (Nat.le_refl _) _).alloc (by simp) _⟩
  rw [if_neg h4]
  have e4 : (xk == 4) = false := by simpa using h4
  by_cases h5 : xk = 5
  · subst h5
    simp only [Int.reduceEq, if_true, if_false]
    go_enter Tryz.func77, Tryz.ntmps77
    go_wp2
    go_ret
    exact ⟨w.heap.size + 1, rfl, by have t := sta_one (w.alloc (.cells #[.int .i64 5, .string xn, .int .i64 xv, .slice xa m xc, .int .i64 xf, .int .i64 xe] 53)) [84]; simpa using t, ((Below.refl _ w).alloc (Nat.le_refl _) _).alloc (by simp) _⟩
  rw [if_neg h5]
  have e5 : (xk == 5) = false := by simpa using h5
  by_cases h6 : xk = 6
  · subst h6
    simp only [Int.reduceEq, if_true, if_false]
    go_enter Tryz.func77, Tryz.ntmps77
    go_wp2
    go_ret
    exact ⟨w.heap.size + 1, rfl, by have t := sta_two (w.alloc (.cells #[.int .i64 6, .string xn, .int .i64 xv, .slice xa m xc, .int .i64 xf, .int .i64 xe] 53)) [] [84]; simpa using t, ((Below.refl _ w).alloc (Nat.le_refl _) _).alloc (by simp) _⟩
  rw [if_neg h6]
  have e6 : (xk == 6) = false := by simpa using h6
  by_cases h7 : xk = 7
  · subst h7
    simp only [Int.reduceEq, if_true, if_false]
    go_enter Tryz.func77, Tryz.ntmps77
    go_wp2
    go_ret
    exact ⟨w.heap.size + 1, rfl, by have t := sta_one (w.alloc (.cells #[.int .i64 7, .string xn, .int .i64 xv, .slice xa m xc, .int .i64 xf, .int .i64 xe] 53)) [84]; simpa using t, ((Below.refl _ w).alloc (Nat.le_refl _) _).alloc (by simp) _⟩
  rw [if_neg h7]
  have e7 : (xk == 7) = false := by simpa using h7
  by_cases h14 : xk = 14
  · subst h14
    simp only [Int.reduceEq, if_true, if_false]
    go_enter Tryz.func77, Tryz.ntmps77
    go_wp2
    go_ret
    exact ⟨w.heap.size + 1, rfl, by have t := sta_one (w.alloc (.cells #[.int .i64 14, .string xn, .int .i64 xv, .slice xa m xc, .int .i64 xf, .int .i64 xe] 53)) [84]; simpa using t, ((Below.refl _ w).alloc (Nat.le_refl _) _).alloc (by simp) _⟩
  rw [if_neg h14]
  have e14 : (xk == 14) = false := by simpa using h14
  by_cases h15 : xk = 15
  · subst h15
    simp only [Int.reduceEq, if_true, if_false]
    go_enter Tryz.func77, Tryz.ntmps77
    go_wp2
    go_ret
    exact ⟨w.heap.size + 1, rfl, by have t := sta_one (w.alloc (.cells #[.int .i64 15, .string xn, .int .i64 xv, .slice xa m xc, .int .i64 xf, .int .i64 xe] 53)) [84]; simpa using t, ((Below.refl _ w).alloc (Nat.le_refl _) _).alloc (by simp) _⟩
  rw [if_neg h15]
  have e15 : (xk == 15) = false := by simpa using h15
  by_cases h16 : xk = 16
  · subst h16
    simp only [Int.reduceEq, if_true, if_false]
    go_enter Tryz.func77, Tryz.ntmps77
    go_wp2
    go_ret
    exact ⟨w.heap.size + 1, rfl, by have t := sta_one (w.alloc (.cells #[.int .i64 16, .string xn, .int .i64 xv, .slice xa m xc, .int .i64 xf, .int .i64 xe] 53)) [84]; simpa using t, ((Below.refl _ w).alloc (Nat.le_refl _) _).alloc (by simp) _⟩
  rw [if_neg h16]
  have e16 : (xk == 16) = false := by simpa using h16
  by_cases h20 : xk = 20
  · subst h20
    simp only [Int.reduceEq, if_true, if_false]
    go_enter Tryz.func77, Tryz.ntmps77
    go_wp2
    go_ret
    exact ⟨w.heap.size + 1, rfl, by have t := sta_one (w.alloc (.cells #[.int .i64 20, .string xn, .int .i64 xv, .slice xa m xc, .int .i64 xf, .int .i64 xe] 53)) [98, 108, 111, 99, 107]; simpa using t, ((Below.refl _ w).alloc (Nat.le_refl _) _).alloc (by simp) _⟩
  rw [if_neg h20]
  have e20 : (xk == 20) = false := by simpa using h20
  by_cases h21 : xk = 21
  · subst h21
    simp only [Int.reduceEq, if_true, if_false]
    go_enter Tryz.func77, Tryz.ntmps77
    go_wp2
    go_ret
    exact ⟨w.heap.size + 1, rfl, by have t := sta_two (w.alloc (.cells #[.int .i64 21, .string xn, .int .i64 xv, .slice xa m xc, .int .i64 xf, .int .i64 xe] 53)) [69] [84, 69]; simpa using t, ((Below.refl _ w).alloc (Nat.le_refl _) _).alloc (by simp) _⟩
  rw [if_neg h21]
  have e21 : (xk == 21) = false := by simpa using h21
  by_cases h22 : xk = 22
  · subst h22
    simp only [Int.reduceEq, if_true, if_false]
    go_enter Tryz.func77, Tryz.ntmps77
    go_wp2
    go_ret
    exact ⟨w.heap.size + 1, rfl, by have t := sta_one (w.alloc (.cells #[.int .i64 22, .string xn, .int .i64 xv, .slice xa m xc, .int .i64 xf, .int .i64 xe] 53)) [69]; simpa using t, ((Below.refl _ w).alloc (Nat.le_refl _) _).alloc (by simp) _⟩
  rw [if_neg h22]
  have e22 : (xk == 22) = false := by simpa using h22
  by_cases h23 : xk = 23
  · subst h23
    simp only [Int.reduceEq, if_true, if_false]
    go_enter Tryz.func77, Tryz.ntmps77
    go_wp2
    go_ret
    exact ⟨w.heap.size + 1, rfl, by have t := sta_one (w.alloc (.cells #[.int .i64 23, .string xn, .int .i64 xv, .slice xa m xc, .int .i64 xf, .int .i64 xe] 53)) [69, 69]; simpa using t, ((Below.refl _ w).alloc (Nat.le_refl _) _).alloc (by simp) _⟩
  rw [if_neg h23]
  have e23 : (xk == 23) = false := by simpa using h23
  by_cases h24 : xk = 24
  · subst h24
    simp only [Int.reduceEq, if_true, if_false]
    go_enter Tryz.func77, Tryz.ntmps77
    go_wp2
    go_ret
    exact ⟨w.heap.size + 1, rfl, by have t := sta_one (w.alloc (.cells #[.int .i64 24, .string xn, .int .i64 xv, .slice xa m xc, .int .i64 xf, .int .i64 xe] 53)) [69, 66]; simpa using t, ((Below.refl _ w).alloc (Nat.le_refl _) _).alloc (by simp) _⟩
  rw [if_neg h24]
  have e24 : (xk == 24) = false := by simpa using h24
  by_cases h25 : xk = 25
  · subst h25
    simp only [Int.reduceEq, if_true, if_false]
    go_enter Tryz.func77, Tryz.ntmps77
    go_wp2
    go_ret
    exact ⟨w.heap.size + 1, rfl, by have t := sta_two (w.alloc (.cells #[.int .i64 25, .string xn, .int .i64 xv, .slice xa m xc, .int .i64 xf, .int .i64 xe] 53)) [] [69]; simpa using t, ((Below.refl _ w).alloc (Nat.le_refl _) _).alloc (by simp) _⟩
  rw [if_neg h25]
  have e25 : (xk == 25) = false := by simpa using h25
  by_cases h34 : xk = 34
  · subst h34
    simp only [Int.reduceEq, if_true, if_false]
    go_enter Tryz.func77, Tryz.ntmps77
    go_wp2
    go_ret
    exact ⟨w.heap.size + 1, rfl, by have t := sta_one (w.alloc (.cells #[.int .i64 34, .string xn, .int .i64 xv, .slice xa m xc, .int .i64 xf, .int .i64 xe] 53)) [42, 69]; simpa using t, ((Below.refl _ w).alloc (Nat.le_refl _) _).alloc (by simp) _⟩
  rw [if_neg h34]
  have e34 : (xk == 34) = false := by simpa using h34
  by_cases h35 : xk = 35
  · subst h35
    simp only [Int.reduceEq, if_true, if_false]
    go_enter Tryz.func77, Tryz.ntmps77
    go_wp2
    go_ret
    exact ⟨w.heap.size + 1, rfl, by have t := sta_one (w.alloc (.cells #[.int .i64 35, .string xn, .int .i64 xv, .slice xa m xc, .int .i64 xf, .int .i64 xe] 53)) [42, 74]; simpa using t, ((Below.refl _ w).alloc (Nat.le_refl _) _).alloc (by simp) _⟩
  rw [if_neg h35]
  have e35 : (xk == 35) = false := by simpa using h35
  by_cases h36 : xk = 36
  · subst h36
    simp only [Int.reduceEq, if_true, if_false]
    go_enter Tryz.func77, Tryz.ntmps77
    go_wp2
    go_ret
    exact ⟨w.heap.size + 1, rfl, by have t := sta_one (w.alloc (.cells #[.int .i64 36, .string xn, .int .i64 xv, .slice xa m xc, .int .i64 xf, .int .i64 xe] 53)) [69]; simpa using t, ((Below.refl _ w).alloc (Nat.le_refl _) _).alloc (by simp) _⟩
  rw [if_neg h36]
  have e36 : (xk == 36) = false := by simpa using h36
  by_cases h37 : xk = 37
  · subst h37
    simp only [Int.reduceEq, if_true, if_false]
    go_enter Tryz.func77, Tryz.ntmps77
    go_wp2
    go_ret
    exact ⟨w.heap.size + 1, rfl, by have t := sta_two (w.alloc (.cells #[.int .i64 37, .string xn, .int .i64 xv, .slice xa m xc, .int .i64 xf, .int .i64 xe] 53)) [] [69]; simpa using t, ((Below.refl _ w).alloc (Nat.le_refl _) _).alloc (by simp) _⟩
  rw [if_neg h37]
  have e37 : (xk == 37) = false := by simpa using h37
  by_cases h38 : xk = 38
  · subst h38
    simp only [Int.reduceEq, if_true, if_false]
    go_enter Tryz.func77, Tryz.ntmps77
    go_wp2
    go_ret
    exact ⟨w.heap.size + 1, rfl, by have t := sta_one (w.alloc (.cells #[.int .i64 38, .string xn, .int .i64 xv, .slice xa m xc, .int .i64 xf, .int .i64 xe] 53)) [69, 69]; simpa using t, ((Below.refl _ w).alloc (Nat.le_refl _) _).alloc (by simp) _⟩
  rw [if_neg h38]
  have e38 : (xk == 38) = false := by simpa using h38
  by_cases h39 : xk = 39
  · subst h39
    simp only [Int.reduceEq, if_true, if_false]
    go_enter Tryz.func77, Tryz.ntmps77
    go_wp2
    go_ret
    exact ⟨w.heap.size + 1, rfl, by have t := sta_one (w.alloc (.cells #[.int .i64 39, .string xn, .int .i64 xv, .slice xa m xc, .int .i64 xf, .int .i64 xe] 53)) [69]; simpa using t, ((Below.refl _ w).alloc (Nat.le_refl _) _).alloc (by simp) _⟩
  rw [if_neg h39]
  have e39 : (xk == 39) = false := by simpa using h39
  by_cases h40 : xk = 40
  · subst h40
    simp only [Int.reduceEq, if_true, if_false]
    go_enter Tryz.func77, Tryz.ntmps77
    go_wp2
    go_ret
    exact ⟨w.heap.size + 1, rfl, by have t := sta_one (w.alloc (.cells #[.int .i64 40, .string xn, .int .i64 xv, .slice xa m xc, .int .i64 xf, .int .i64 xe] 53)) [69]; simpa using t, ((Below.refl _ w).alloc (Nat.le_refl _) _).alloc (by simp) _⟩
  rw [if_neg h40]
  have e40 : (xk == 40) = false := by simpa using h40
  by_cases h41 : xk = 41
  · subst h41
    simp only [Int.reduceEq, if_true, if_false]
    go_enter Tryz.func77, Tryz.ntmps77
    go_wp2
    go_ret
    exact ⟨w.heap.size + 1, rfl, by have t := sta_one (w.alloc (.cells #[.int .i64 41, .string xn, .int .i64 xv, .slice xa m xc, .int .i64 xf, .int .i64 xe] 53)) [69]; simpa using t, ((Below.refl _ w).alloc (Nat.le_refl _) _).alloc (by simp) _⟩
  rw [if_neg h41]
  have e41 : (xk == 41) = false := by simpa using h41
  by_cases h42 : xk = 42
  · subst h42
    simp only [Int.reduceEq, if_true, if_false]
    go_enter Tryz.func77, Tryz.ntmps77
    go_wp2
    go_ret
    exact ⟨w.heap.size + 1, rfl, by have t := sta_one (w.alloc (.cells #[.int .i64 42, .string xn, .int .i64 xv, .slice xa m xc, .int .i64 xf, .int .i64 xe] 53)) [69]; simpa using t, ((Below.refl _ w).alloc (Nat.le_refl _) _).alloc (by simp) _⟩
  rw [if_neg h42]
  have e42 : (xk == 42) = false := by simpa using h42
  by_cases h43 : xk = 43
  · subst h43
    simp only [Int.reduceEq, if_true, if_false]
    go_enter Tryz.func77, Tryz.ntmps77
    go_wp2
    go_ret
    exact ⟨w.heap.size + 1, rfl, by have t := sta_one (w.alloc (.cells #[.int .i64 43, .string xn, .int .i64 xv, .slice xa m xc, .int .i64 xf, .int .i64 xe] 53)) [69]; simpa using t, ((Below.refl _ w).alloc (Nat.le_refl _) _).alloc (by simp) _⟩
  rw [if_neg h43]
  have e43 : (xk == 43) = false := by simpa using h43
  by_cases h44 : xk = 44
  · subst h44
    simp only [Int.reduceEq, if_true, if_false]
    go_enter Tryz.func77, Tryz.ntmps77
    go_wp2
    go_ret
    exact ⟨w.heap.size + 1, rfl, by have t := sta_one (w.alloc (.cells #[.int .i64 44, .string xn, .int .i64 xv, .slice xa m xc, .int .i64 xf, .int .i64 xe] 53)) [69]; simpa using t, ((Below.refl _ w).alloc (Nat.le_refl _) _).alloc (by simp) _⟩
  rw [if_neg h44]
  have e44 : (xk == 44) = false := by simpa using h44
  by_cases h45 : xk = 45
  · subst h45
    simp only [Int.reduceEq, if_true, if_false]
    go_enter Tryz.func77, Tryz.ntmps77
    go_wp2
    go_ret
    exact ⟨w.heap.size + 1, rfl, by have t := sta_two (w.alloc (.cells #[.int .i64 45, .string xn, .int .i64 xv, .slice xa m xc, .int .i64 xf, .int .i64 xe] 53)) [69, 66] [69, 66, 88]; simpa using t, ((Below.refl _ w).alloc (Nat.le_refl _) _).alloc (by simp) _⟩
  rw [if_neg h45]
  have e45 : (xk == 45) = false := by simpa using h45
  by_cases h46 : xk = 46
  · subst h46
    simp only [Int.reduceEq, if_true, if_false]
    go_enter Tryz.func77, Tryz.ntmps77
    go_wp2
    go_ret
    exact ⟨w.heap.size + 1, rfl, by have t := sta_one (w.alloc (.cells #[.int .i64 46, .string xn, .int .i64 xv, .slice xa m xc, .int .i64 xf, .int .i64 xe] 53)) [69, 42, 65]; simpa using t, ((Below.refl _ w).alloc (Nat.le_refl _) _).alloc (by simp) _⟩
  rw [if_neg h46]
  have e46 : (xk == 46) = false := by simpa using h46
  by_cases h47 : xk = 47
  · subst h47
    simp only [Int.reduceEq, if_true, if_false]
    go_enter Tryz.func77, Tryz.ntmps77
    go_wp2
    go_ret
    exact ⟨w.heap.size + 1, rfl, by have t := sta_one (w.alloc (.cells #[.int .i64 47, .string xn, .int .i64 xv, .slice xa m xc, .int .i64 xf, .int .i64 xe] 53)) [80, 69]; simpa using t, ((Below.refl _ w).alloc (Nat.le_refl _) _).alloc (by simp) _⟩
  rw [if_neg h47]
  have e47 : (xk == 47) = false := by simpa using h47
  by_cases h54 : xk = 54
  · subst h54
    simp only [if_true]
    go_enter Tryz.func77, Tryz.ntmps77
    go_wp2
    go_ret
    exact ⟨w.heap.size + 1, rfl, by have t := sta_two (w.alloc (.cells #[.int .i64 54, .string xn, .int .i64 xv, .slice xa m xc, .int .i64 xf, .int .i64 xe] 53)) [] [80]; simpa using t, ((Below.refl _ w).alloc (Nat.le_refl _) _).alloc (by simp) _⟩
  rw [if_neg h54]
  have e54 : (xk == 54) = false := by simpa using h54
  clear h1 h2 h3 h4 h5 h6 h7 h14 h15 h16 h20 h21 h22 h23 h24 h25 h34 h35 h36 h37 h38 h39 h40 h41 h42 h43 h44 h45 h46 h47 h54
  go_enter Tryz.func77, Tryz.ntmps77
  go_wp2
  go_ret
  exact ⟨w.heap.size + 1, rfl, by have t := sta_one (w.alloc (.cells #[.int .i64 xk, .string xn, .int .i64 xv, .slice xa m xc, .int .i64 xf, .int .i64 xe] 53)) []; simpa using t, ((Below.refl _ w).alloc (Nat.le_refl _) _).alloc (by simp) _⟩
end Go.Proofs.YtkkmeogehapjoaaGreatDoor
