/- Whether a tree is right: plain facts on parents. -/
import Derived.Test.YtkkmeogehapjoaaGreatDoorXA
import Derived.Test.YtkkmeogehapjoaaGreatDoorW1
namespace Go.Proofs.YtkkmeogehapjoaaGreatDoor
open Go.RowKit Go.Shelf
theorem pKids_len {k : Nat} : ∀ {ks p q : List Int}, pKids k ks p = some q → q.length = p.length
  | [], p, q, h => by cases h; rfl
  | y :: r, p, q, h => by
    unfold pKids at h
    split at h
    · cases h
    · rw [pKids_len h, List.length_set]
theorem pKids_inn {k : Nat} : ∀ {ks p q : List Int}, pKids k ks p = some q → ∀ y ∈ ks, 0 ≤ y ∧ y < k
  | [], _, _, _, y, hy => by cases hy
  | z :: r, p, q, h, y, hy => by
    unfold pKids at h
    split at h
    · cases h
    · rcases List.mem_cons.1 hy with rfl | hy
      · omega
      · exact pKids_inn h y hy
/-- Each entry is none, or a node behind it. -/
def Upk (n : Nat) (p : List Int) : Prop := ∀ i, i < p.length → p.getD i 0 = -1 ∨ ((i : Int) < p.getD i 0 ∧ p.getD i 0 < n)
theorem Upk.set {n k : Nat} {p : List Int} (h : Upk n p) (hk : k < n) {y : Nat} (hy : y < k) : Upk n (p.set y k) := by
  intro i hi
  rw [List.length_set] at hi
  by_cases e : i = y
  · subst e
    have t : (p.set i (k : Int)).getD i 0 = k := by simp [List.getD, hi]
    rw [t]
    omega
  · have t : (p.set y (k : Int)).getD i 0 = p.getD i 0 := by simp [List.getD, Ne.symm e]
    rw [t]
    exact h i hi
theorem pKids_up {n k : Nat} (hk : k < n) : ∀ {ks p q : List Int}, pKids k ks p = some q → Upk n p → Upk n q
  | [], p, q, h, hu => by cases h; exact hu
  | y :: r, p, q, h, hu => by
    unfold pKids at h
    split at h
    · cases h
    · rename_i hc
      exact pKids_up hk h (hu.set hk (by omega))
theorem pAll_all {n : Nat} : ∀ (l : List Nd) (k : Nat) (p q : List Int), k + l.length = n → pAll k l p = some q → Upk n p → q.length = p.length ∧ Upk n q ∧ ∀ x ∈ l, ∀ y ∈ x.ks, 0 ≤ y ∧ y < n
  | [], k, p, q, hn, h, hu => by cases h; exact ⟨rfl, hu, fun x hx => by cases hx⟩
  | x :: r, k, p, q, hn, h, hu => by
    simp only [List.length_cons] at hn
    unfold pAll at h
    cases hq : pKids k x.ks p with
    | none => rw [hq] at h; cases h
    | some p' =>
      rw [hq] at h
      obtain ⟨a1, a2, a3⟩ := pAll_all r (k + 1) p' q (by omega) h (pKids_up (by omega) hq hu)
      refine ⟨by rw [a1, pKids_len hq], a2, fun z hz y hy => ?_⟩
      rcases List.mem_cons.1 hz with rfl | hz
      · have := pKids_inn hq y hy
        omega
      · exact a3 z hz y hy
theorem parR_some {l : List Nd} {p : List Int} (h : parR l = some p) : p.length = l.length ∧ Upk l.length p ∧ ∀ x ∈ l, Inn l x.ks := by
  obtain ⟨a1, a2, a3⟩ := pAll_all (n := l.length) l 0 _ p (by omega) h (fun i hi => .inl (by
    simp only [List.length_replicate] at hi
    simp [List.getD, hi]))
  exact ⟨by rw [a1]; simp, a2, fun x hx y hy => a3 x hx y hy⟩
theorem ups_of {l : List Nd} {p : List Int} (h : parR l = some p) (hc : (p.take (l.length - 1)).contains (-1) = false) : Ups p := by
  obtain ⟨a1, a2, _⟩ := parR_some h
  intro i hi
  rcases a2 i (by omega) with e | e
  · exfalso
    rw [← Bool.not_eq_true, List.contains_iff_mem] at hc
    apply hc
    have hil : i < p.length := by omega
    have : p[i] = -1 := by simpa [List.getD, hil] using e
    rw [← this]
    exact List.mem_take_iff_getElem.2 ⟨i, by omega, rfl⟩
  · rw [a1]
    exact e
/-- A node, by itself, in its tree. -/
def nodB (l : List Nd) (x : Nd) : Bool := !(decide (x.fr < 0)) && (!(decide (x.en < x.fr)) && (nfB x.k x.nm.data.toList && (nuB x.k x.v && kidsB l x.k x.v x.ks)))
def lastK (l : List Nd) : Int := kdK l ((l.length : Int) - 1)
/-- Whether a tree is right. -/
def rightB (l : List Nd) : Bool := if l.length = 0 ∨ 20000 < l.length ∨ ¬ lastK l = 1 then false else
  match parR l with
  | none => false
  | some p => !((p.take (l.length - 1)).contains (-1)) && (!(decide (400 < Lib.maxOf (depR p))) && l.all (nodB l))
end Go.Proofs.YtkkmeogehapjoaaGreatDoor
