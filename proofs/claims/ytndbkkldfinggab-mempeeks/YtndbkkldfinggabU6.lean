/- Two memories of the same pages that came in. -/
import Derived.Test.YtndbkkldfinggabU5
import Derived.Test.YtndbkkldfinggabU1
namespace Go.Proofs.Ytndbkkldfinggab
open Go.RowKit Go.Shelf
theorem Fr.apart' {W : World} {b r i : Nat} {k p : Nat → Int} {Y : Nat → Nat → Int} {base : Nat} {ps : List Pgd} (h : Fr W b r i k p Y base ps) : ∀ x ∈ ps, ∀ y ∈ ps, x.g = y.g → x = y := by
  intro x hx y hy e
  obtain ⟨s, hs, rfl⟩ := List.getElem_of_mem hx
  obtain ⟨t, ht, rfl⟩ := List.getElem_of_mem hy
  have P := List.pairwise_iff_getElem.1 h.apart
  rcases Nat.lt_trichotomy s t with hl | rfl | hl
  · have := P s t hs ht hl; omega
  · rfl
  · have := P t s ht hs hl; omega
theorem Fr.mo {W : World} {b r i : Nat} {k p : Nat → Int} {Y : Nat → Nat → Int} {base : Nat} {ps : List Pgd} (h : Fr W b r i k p Y base ps) (hY : ∀ i j, 0 ≤ Y i j ∧ Y i j < 256) : Mo W b r ps (btOf W) := by
  refine ⟨h.mm hY, fun x hx => ?_, h.apart'⟩
  obtain ⟨t, ht, rfl⟩ := List.getElem_of_mem hx
  obtain ⟨cur, hc, _⟩ := (h.data t _ (List.getElem?_eq_getElem ht)).1
  exact ⟨cur, hc⟩
theorem Fr.pg_at {W : World} {b r i : Nat} {k p : Nat → Int} {Y : Nat → Nat → Int} {base : Nat} {ps : List Pgd} (h : Fr W b r i k p Y base ps) {t : Nat} (ht : t < ps.length) : pg ps (k t) = some ps[t] := by
  have e := (h.at_ t _ (List.getElem?_eq_getElem ht)).1
  cases hp : pg ps (k t) with
  | none =>
    unfold pg at hp
    rw [List.find?_eq_none] at hp
    exact absurd (by simp [e]) (hp ps[t] (List.getElem_mem ht))
  | some y =>
    obtain ⟨e2, hm⟩ := pg_k hp
    obtain ⟨s, hs, rfl⟩ := List.getElem_of_mem hm
    have P := List.pairwise_iff_getElem.1 h.up
    rcases Nat.lt_trichotomy s t with hl | rfl | hl
    · have := P s t hs ht hl; omega
    · rfl
    · have := P t s ht hs hl; omega
theorem Fr.pg_idx {W : World} {b r i : Nat} {k p : Nat → Int} {Y : Nat → Nat → Int} {base : Nat} {ps : List Pgd} (h : Fr W b r i k p Y base ps) {q : Int} {x : Pgd} (hx : pg ps q = some x) : ∃ t, ∃ ht : t < ps.length, ps[t] = x ∧ k t = q := by
  obtain ⟨e, hm⟩ := pg_k hx
  obtain ⟨t, ht, rfl⟩ := List.getElem_of_mem hm
  exact ⟨t, ht, rfl, by rw [← e, (h.at_ t _ (List.getElem?_eq_getElem ht)).1]⟩
theorem Fr.alike {W W' : World} {b r b' r' i : Nat} {k p : Nat → Int} {Y : Nat → Nat → Int} {base base' : Nat} {ps qs : List Pgd} (h : Fr W b r i k p Y base ps) (h' : Fr W' b' r' i k p Y base' qs) : Alike ps qs := by
  have l := h.len
  have l' := h'.len
  intro q
  refine ⟨fun x hx => ?_, fun hn => ?_⟩
  · obtain ⟨t, ht, rfl, rfl⟩ := h.pg_idx hx
    exact ⟨_, h'.pg_at (t := t) (by omega), by rw [(h'.at_ t _ (List.getElem?_eq_getElem (by omega))).2.1, (h.at_ t _ (List.getElem?_eq_getElem ht)).2.1]⟩
  · cases hq : pg qs q with
    | none => rfl
    | some y =>
      obtain ⟨t, ht, rfl, rfl⟩ := h'.pg_idx hq
      rw [h.pg_at (t := t) (by omega)] at hn
      cases hn
theorem Fr.byts {W W' : World} {b r b' r' i : Nat} {k p : Nat → Int} {Y : Nat → Nat → Int} {base base' : Nat} {ps qs : List Pgd} (h : Fr W b r i k p Y base ps) (h' : Fr W' b' r' i k p Y base' qs) (hY : ∀ i j, 0 ≤ Y i j ∧ Y i j < 256) (q : Int) (hq : pg ps (bs q) ≠ none) : byt ps (btOf W) q = byt qs (btOf W') q := by
  have l := h.len
  have l' := h'.len
  obtain ⟨x, hx⟩ := Option.ne_none_iff_exists'.1 hq
  obtain ⟨t, ht, rfl, e⟩ := h.pg_idx hx
  have hy := h'.pg_at (t := t) (by omega)
  rw [e] at hy
  unfold byt
  rw [hx, hy]
  simp only [Option.getD_some]
  have ho : (q - bs q).toNat < 4096 := by unfold bs; omega
  rw [btOf_at ((h.data t _ (List.getElem?_eq_getElem ht)).2 _ ho) (hY _ _), btOf_at ((h'.data t _ (List.getElem?_eq_getElem (by omega))).2 _ ho) (hY _ _)]
/-- Same, from the bytes by their places. -/
theorem same_places {ps qs : List Pgd} {bt ct : Nat → Nat → Int} (h : Alike ps qs) (hk : ∀ x ∈ ps, x.k % 4096 = 0) (hb : ∀ p, pg ps (bs p) ≠ none → byt ps bt p = byt qs ct p) : ∀ k x, pg ps k = some x → ∃ y, pg qs k = some y ∧ y.p = x.p ∧ ∀ j, j < 4096 → bt x.g j = ct y.g j := by
  intro k x hx
  obtain ⟨y, hy, hp⟩ := (h k).1 x hx
  refine ⟨y, hy, hp, fun j hj => ?_⟩
  have h0 := hk x (pg_k hx).2
  rw [(pg_k hx).1] at h0
  have e : bs (k + (j : Int)) = k := by unfold bs; omega
  have t := hb (k + j) (by rw [e, hx]; simp)
  unfold byt at t
  rw [e, hx, hy] at t
  simp only [Option.getD_some] at t
  rw [show (k + (j : Int) - k).toNat = j by omega] at t
  exact t
theorem fromE_al {k p : Nat → Int} {bl : Nat → Nat} : ∀ n, fromE k p bl n = 0 → ∀ i, i < n → k i % 4096 = 0
  | 0, _, _, h => by omega
  | n + 1, h, i, hi => by
    have h0 : fromE k p bl n = 0 := by
      by_cases e : fromE k p bl n = 0
      · exact e
      · rw [fromE, if_neg e] at h; exact absurd h e
    by_cases e : i = n
    · subst e
      rw [fromE, if_pos h0] at h
      unfold stepE at h
      split at h
      · cases h
      · rename_i hb
        unfold badB at hb
        by_cases ha : k i % 4096 = 0
        · exact ha
        · simp [ha] at hb
    · exact fromE_al n h0 i (by omega)
end Go.Proofs.Ytndbkkldfinggab
