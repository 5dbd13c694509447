/- A memory of whatever pages: a number out of it (Load). -/
import Derived.Test.YtndbkkldfinggabR2
import Derived.Laws.BitsAllLaws
namespace Go.Proofs.Ytndbkkldfinggab
open Go.RowKit Go.Shelf
/-- The number of bytes, the lowest first. -/
def sumV : List Int → Int
  | [] => 0
  | x :: r => x + 256 * sumV r
def isBytes (l : List Int) : Prop := ∀ x ∈ l, 0 ≤ x ∧ x < 256
theorem sumV_bound : ∀ (l : List Int), isBytes l → 0 ≤ sumV l ∧ sumV l < 256 ^ l.length
  | [], _ => by simp [sumV]
  | x :: r, h => by
    have h1 := h x (by simp)
    have h2 := sumV_bound r (fun y hy => h y (by simp [hy]))
    simp only [sumV, List.length_cons, Int.pow_succ]
    omega
theorem sumV_append (l : List Int) : ∀ (k : List Int), sumV (k ++ l) = sumV k + 256 ^ k.length * sumV l
  | [] => by simp [sumV]
  | x :: r => by
    simp only [List.cons_append, sumV, sumV_append l r, List.length_cons, Int.pow_succ]
    rw [Int.mul_add, Int.mul_comm (256 ^ r.length) 256, Int.mul_assoc]
    omega
theorem pow_le7 {k : Nat} (h : k ≤ 7) : (256 : Int) ^ k = ((2 ^ (8 * k) : Nat) : Int) ∧ 2 ^ (8 * k) * 256 ≤ 18446744073709551616 := by
  rcases (by omega : k = 0 ∨ k = 1 ∨ k = 2 ∨ k = 3 ∨ k = 4 ∨ k = 5 ∨ k = 6 ∨ k = 7) with rfl | rfl | rfl | rfl | rfl | rfl | rfl | rfl <;> exact ⟨by decide, by decide⟩
theorem orB_sum (v : Int) (k : Nat) (y : Int) (hk : k ≤ 7) (v0 : 0 ≤ v) (v1 : v < 256 ^ k) (y0 : 0 ≤ y) (y1 : y < 256) : orB v k y = v + 256 ^ k * y := by
  obtain ⟨e, hb⟩ := pow_le7 hk
  obtain ⟨vn, rfl⟩ := Int.eq_ofNat_of_zero_le v0
  obtain ⟨yn, rfl⟩ := Int.eq_ofNat_of_zero_le y0
  have hy : yn < 256 := by omega
  have hv : vn < 2 ^ (8 * k) := by rw [e] at v1; exact_mod_cast v1
  have hm : yn * 2 ^ (8 * k) ≤ 255 * 2 ^ (8 * k) := Nat.mul_le_mul_right _ (by omega)
  have hs : shB k (yn : Int) = ((2 ^ (8 * k) * yn : Nat) : Int) := by
    unfold shB
    rw [show min (8 * k) 64 = 8 * k by omega]
    have t : (yn : Int) * 2 ^ (8 * k) = ((yn * 2 ^ (8 * k) : Nat) : Int) := by simp
    rw [t, Nat.mul_comm]
    simp only [IntKind.wrap, IntKind.signed, IntKind.bits, Bool.false_and]
    rw [Nat.mul_comm] at hm
    simp only [Bool.false_eq_true, if_false]
    generalize 2 ^ (8 * k) * yn = z at *
    omega
  unfold orB
  rw [hs, u64_or_nat vn _ (by omega) (by rw [Nat.mul_comm]; omega), Nat.or_comm, ← Nat.two_pow_add_eq_or_of_lt hv, e]
  simp
  omega
theorem accV_sum : ∀ (n : Nat) (l : List Int), l.length = n → isBytes l → l.length ≤ 8 → accV l = sumV l
  | 0, l, hn, _, _ => by rw [List.length_eq_zero_iff.1 hn]; rfl
  | n + 1, l, hn, h, h8 => by
    rcases List.eq_nil_or_concat l with rfl | ⟨l, y, rfl⟩
    · cases hn
    · have hl : isBytes l := fun x hx => h x (by simp [hx])
      have hy := h y (by simp)
      simp only [List.concat_eq_append, List.length_append, List.length_singleton] at h8 hn ⊢
      have hb := sumV_bound l hl
      rw [accV_snoc, accV_sum n l (by omega) hl (by omega), orB_sum _ _ _ (by omega) hb.1 hb.2 hy.1 hy.2, sumV_append]
      simp [sumV]
/-- No page. -/
def noP : Pgd := ⟨0, 0, 0, 0⟩
def pgX (ps : List Pgd) (a : Int) (i : Nat) : Pgd := (pg ps (pB a i)).getD noP
/-- The byte at a place. -/
def byt (ps : List Pgd) (bt : Nat → Nat → Int) (p : Int) : Int := bt ((pg ps (bs p)).getD noP).g (p - bs p).toNat
/-- In how many pages n bytes lie (n is 1 to 8). -/
def pM (a n : Int) : Nat := if a + n ≤ bs a + 4096 then 1 else 2
theorem pM_iff {a n : Int} (a0 : 0 ≤ a) (n0 : 1 ≤ n) (n1 : n ≤ 8) (i : Nat) : i < pM a n ↔ pl a i < a + n := by
  obtain ⟨f0, f1, f2, f3⟩ := bs_facts a0
  unfold pM pl pB
  split
  · constructor
    · intro h; obtain rfl : i = 0 := by omega
      simp only [Int.natCast_zero]; omega
    · intro h; omega
  · constructor
    · intro h
      rcases (by omega : i = 0 ∨ i = 1) with rfl | rfl
      · simp only [Int.natCast_zero]; omega
      · simp only [Int.natCast_one]; omega
    · intro h; omega
def byts (ps : List Pgd) (bt : Nat → Nat → Int) (a : Int) (n : Nat) : List Int := (List.range n).map fun (j : Nat) => byt ps bt (a + (j : Int))
theorem byts_len (ps : List Pgd) (bt : Nat → Nat → Int) (a : Int) (n : Nat) : (byts ps bt a n).length = n := by simp [byts]
theorem byts_add (ps : List Pgd) (bt : Nat → Nat → Int) (a : Int) (n m : Nat) : byts ps bt a (n + m) = byts ps bt a n ++ byts ps bt (a + n) m := by
  unfold byts
  rw [List.range_add, List.map_append, List.map_map]
  congr 1
  apply List.map_congr_left
  intro j _
  simp only [Function.comp]
  congr 1
  omega
theorem byt_in {ps : List Pgd} {bt : Nat → Nat → Int} {p q : Int} (hq : q % 4096 = 0) (h1 : q ≤ p) (h2 : p < q + 4096) : byt ps bt p = bt ((pg ps q).getD noP).g (p - q).toNat := by
  have e : bs p = q := by unfold bs; omega
  unfold byt
  rw [e]
theorem pieces_byts {ps : List Pgd} {bt : Nat → Nat → Int} {a : Int} {n : Nat} (a0 : 0 ≤ a) (n0 : 1 ≤ n) (n1 : n ≤ 8) : ((List.finRange (pM a n)).flatMap fun x => pBy a n (pgX ps a) bt x.1) = byts ps bt a n := by
  obtain ⟨f0, f1, f2, f3⟩ := bs_facts a0
  have hp : ∀ i, pl a i < a + n → pBy a n (pgX ps a) bt i = byts ps bt (pl a i) (pL a n i) := by
    intro i h
    obtain ⟨q, o, L, k1, k2, k3, k4, k5, k6, k7, k8, k9, k10, k11⟩ := p_facts (n := n) (i := i) a0 h
    unfold pBy byts
    apply List.map_congr_left
    intro j hj
    rw [List.mem_range] at hj
    unfold pgX
    rw [byt_in (q := q) k6 (by omega) (by omega), k1, k3, k2]
    congr 1
    omega
  have e0 : pl a 0 = a := by unfold pl pB; simp only [Int.natCast_zero]; omega
  by_cases h : a + n ≤ bs a + 4096
  · have em : pM a n = 1 := by unfold pM; rw [if_pos h]
    rw [em]
    simp only [List.finRange_succ, List.finRange_zero, List.map_nil, List.flatMap_cons, List.flatMap_nil, List.append_nil]
    rw [show ((0 : Fin 1) : Nat) = 0 from rfl, hp 0 (by omega), e0]
    congr 1
    unfold pL pB
    rw [e0]
    omega
  · have em : pM a n = 2 := by unfold pM; rw [if_neg h]
    rw [em]
    have e1 : pl a 1 = bs a + 4096 := by unfold pl pB; simp only [Int.natCast_one]; omega
    simp only [List.finRange_succ, List.finRange_zero, List.map_nil, List.map_cons, List.flatMap_cons, List.flatMap_nil, List.append_nil]
    rw [show ((0 : Fin 2) : Nat) = 0 from rfl, show ((Fin.succ 0 : Fin 2) : Nat) = 1 from rfl, hp 0 (by omega), hp 1 (by omega), e0, e1]
    have l0 : pL a n 0 = (bs a + 4096 - a).toNat := by unfold pL pB; rw [e0]; omega
    have l1 : pL a n 1 = (a + n - bs a - 4096).toNat := by unfold pL pB; rw [e1]; omega
    rw [l0, l1]
    have t := byts_add ps bt a (bs a + 4096 - a).toNat (a + n - bs a - 4096).toNat
    rw [show (bs a + 4096 - a).toNat + (a + n - bs a - 4096).toNat = n by omega, show a + ((bs a + 4096 - a).toNat : Int) = bs a + 4096 by omega] at t
    exact t.symm
end Go.Proofs.Ytndbkkldfinggab
