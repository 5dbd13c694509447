/- The bytes behind a Store, by their places; two stores that do not meet. -/
import Derived.Test.YtndbkkldfinggabU4
namespace Go.Proofs.Ytndbkkldfinggab
open Go.RowKit Go.Shelf
def gOf (ps : List Pgd) (p : Int) : Nat := ((pg ps (bs p)).getD noP).g
def oOf (p : Int) : Nat := (p - bs p).toNat
theorem byt_eq (ps : List Pgd) (bt : Nat → Nat → Int) (p : Int) : byt ps bt p = bt (gOf ps p) (oOf p) := rfl
theorem place_inj {ps : List Pgd} (hap : ∀ x ∈ ps, ∀ y ∈ ps, x.g = y.g → x = y) {p p' : Int} (h : pg ps (bs p) ≠ none) (h' : pg ps (bs p') ≠ none) (h1 : gOf ps p = gOf ps p') (h2 : oOf p = oOf p') : p = p' := by
  obtain ⟨x, hx⟩ := Option.ne_none_iff_exists'.1 h
  obtain ⟨y, hy⟩ := Option.ne_none_iff_exists'.1 h'
  unfold gOf at h1
  rw [hx, hy] at h1
  have e := hap x (pg_k hx).2 y (pg_k hy).2 h1
  have k1 := (pg_k hx).1
  have k2 := (pg_k hy).1
  rw [e] at k1
  unfold oOf at h2
  unfold bs at *
  omega
theorem byt_setB {ps : List Pgd} (hap : ∀ x ∈ ps, ∀ y ∈ ps, x.g = y.g → x = y) (bt : Nat → Nat → Int) {p p' : Int} (h : pg ps (bs p) ≠ none) (h' : pg ps (bs p') ≠ none) (y : Int) : byt ps (setB bt (gOf ps p') (oOf p') y) p = if p = p' then y else byt ps bt p := by
  rw [byt_eq, byt_eq]
  unfold setB
  by_cases e : p = p'
  · subst e; rw [if_pos ⟨rfl, rfl⟩, if_pos rfl]
  · rw [if_neg (fun k => e (place_inj hap h h' k.1 k.2)), if_neg e]
theorem plc_succ (ps : List Pgd) (a : Int) (n : Nat) : plc ps a (n + 1) = plc ps a n ++ [(gOf ps (a + n), oOf (a + n))] := by
  unfold plc
  rw [List.range_succ, List.map_append, List.map_singleton]
  rfl
theorem byt_wr {ps : List Pgd} (hap : ∀ x ∈ ps, ∀ y ∈ ps, x.g = y.g → x = y) (bt : Nat → Nat → Int) (a v : Int) (v0 : 0 ≤ v) (p : Int) (hp : pg ps (bs p) ≠ none) : ∀ n : Nat, (∀ j : Nat, j < n → pg ps (bs (a + j)) ≠ none) → (wrL bt v (plc ps a n)).2 = v / 256 ^ n ∧ byt ps (wrL bt v (plc ps a n)).1 p = if a ≤ p ∧ p < a + n then (v / 256 ^ (p - a).toNat) % 256 else byt ps bt p
  | 0, _ => by
    refine ⟨by simp [plc, wrL], ?_⟩
    rw [if_neg (by omega)]
    simp [plc, wrL]
  | n + 1, hall => by
    obtain ⟨i1, i2⟩ := byt_wr hap bt a v v0 p hp n (fun j hj => hall j (by omega))
    rw [plc_succ, wrL_snoc]
    unfold wrS
    simp only []
    refine ⟨?_, ?_⟩
    · rw [i1, Int.pow_succ, Int.ediv_ediv_of_nonneg (by exact Int.le_of_lt (Int.pow_pos (by decide)))]
    · rw [byt_setB hap _ hp (hall n (by omega)), i1, i2]
      by_cases e : p = a + n
      · subst e
        rw [if_pos rfl, if_pos (by omega), show (a + (n : Int) - a).toNat = n by omega]
      · rw [if_neg e]
        by_cases h1 : a ≤ p ∧ p < a + n
        · rw [if_pos h1, if_pos (by omega)]
        · rw [if_neg h1, if_neg (by omega)]
theorem use_all {ps : List Pgd} {a : Int} {n : Nat} {perm : Int} (a0 : 0 ≤ a) (n1 : n ≤ 8) (h : useE ps a n perm = 0) (j : Nat) (hj : j < n) : pg ps (bs (a + j)) ≠ none := by
  obtain ⟨f0, f1, f2, f3⟩ := bs_facts a0
  have z := useE_zero h
  unfold pM at z
  by_cases hc : a + (n : Int) ≤ bs a + 4096
  · rw [if_pos hc] at z
    have t := z 0 (by omega)
    have e : bs (a + j) = pB a 0 := by unfold pB; unfold bs at *; omega
    rw [e, t]; simp
  · rw [if_neg hc] at z
    by_cases hl : a + (j : Int) < bs a + 4096
    · have t := z 0 (by omega)
      have e : bs (a + j) = pB a 0 := by unfold pB; unfold bs at *; omega
      rw [e, t]; simp
    · have t := z 1 (by omega)
      have e : bs (a + j) = pB a 1 := by unfold pB; unfold bs at *; omega
      rw [e, t]; simp
theorem byt_st {ps : List Pgd} (hap : ∀ x ∈ ps, ∀ y ∈ ps, x.g = y.g → x = y) (bt : Nat → Nat → Int) (a v : Int) (n : Nat) (a0 : 0 ≤ a) (n1 : n ≤ 8) (v0 : 0 ≤ v) (p : Int) (hp : pg ps (bs p) ≠ none) : byt ps (stB ps bt a n v) p = if useE ps a n 2 = 0 ∧ a ≤ p ∧ p < a + n then (v / 256 ^ (p - a).toNat) % 256 else byt ps bt p := by
  unfold stB
  by_cases hu : useE ps a n 2 = 0
  · rw [if_pos hu, (byt_wr hap bt a v v0 p hp n (use_all a0 n1 hu)).2]
    simp only [hu, true_and]
  · rw [if_neg hu, if_neg (fun k => hu k.1)]
/-- Two memories with the same Bases and Perms. -/
def Alike (ps qs : List Pgd) : Prop := ∀ k, (∀ x, pg ps k = some x → ∃ y, pg qs k = some y ∧ y.p = x.p) ∧ (pg ps k = none → pg qs k = none)
theorem use_alike {ps qs : List Pgd} (h : Alike ps qs) (a n perm : Int) : useE ps a n perm = useE qs a n perm := by
  unfold useE
  cases h1 : pg ps (bs a) with
  | none => rw [(h _).2 h1]
  | some x =>
    obtain ⟨y, hy, hp⟩ := (h _).1 x h1
    rw [hy]
    have E1 : badP y perm = badP x perm := by unfold badP; rw [hp]
    cases h2 : pg ps (bs a + 4096) with
    | none => rw [(h _).2 h2]; simp only [e1, E1]
    | some x2 =>
      obtain ⟨y2, hy2, hp2⟩ := (h _).1 x2 h2
      rw [hy2]
      have E2 : badP y2 perm = badP x2 perm := by unfold badP; rw [hp2]
      simp only [e1, e2, E1, E2]
/-- Two stores that do not meet, in either order. -/
theorem two_same {ps qs : List Pgd} {bt ct : Nat → Nat → Int} (hap : ∀ x ∈ ps, ∀ y ∈ ps, x.g = y.g → x = y) (haq : ∀ x ∈ qs, ∀ y ∈ qs, x.g = y.g → x = y) (h : Alike ps qs) (hb : ∀ p, pg ps (bs p) ≠ none → byt ps bt p = byt qs ct p) (a v a' v' : Int) (n : Nat) (a0 : 0 ≤ a) (a0' : 0 ≤ a') (n1 : n ≤ 8) (v0 : 0 ≤ v) (v0' : 0 ≤ v') (hne : ¬ (a' < a + n ∧ a < a' + n)) (p : Int) (hp : pg ps (bs p) ≠ none) :
    byt ps (stB ps (stB ps bt a n v) a' n v') p = byt qs (stB qs (stB qs ct a' n v') a n v) p := by
  have hq : pg qs (bs p) ≠ none := by
    obtain ⟨x, hx⟩ := Option.ne_none_iff_exists'.1 hp
    obtain ⟨y, hy, _⟩ := (h _).1 x hx
    rw [hy]; simp
  rw [byt_st hap _ a' v' n a0' n1 v0' p hp, byt_st hap _ a v n a0 n1 v0 p hp, byt_st haq _ a v n a0 n1 v0 p hq, byt_st haq _ a' v' n a0' n1 v0' p hq, ← use_alike h, ← use_alike h, hb p hp]
  by_cases c1 : useE ps a' n 2 = 0 ∧ a' ≤ p ∧ p < a' + n
  · rw [if_pos c1, if_neg (fun c2 => hne (by omega)), if_pos c1]
  · rw [if_neg c1, if_neg c1]
end Go.Proofs.Ytndbkkldfinggab
