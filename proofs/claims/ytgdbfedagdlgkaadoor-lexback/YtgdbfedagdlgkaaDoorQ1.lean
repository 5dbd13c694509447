/- Which tokens have a text of their kind: the program's way is the document's. -/
import Derived.Test.YtgdbfedagdlgkaaDoorQ0
import Derived.Test.YtgdbfedagdlgkaaDoorH7
import Derived.Lib.ItoaMem
namespace Go.Proofs.YtgdbfedagdlgkaaDoor
open Go.RowKit Go.Shelf
theorem pU_snoc (M : Nat) (l : List UInt8) (acc x : Nat) (c : UInt8) (h : Lib.parseUintM M acc l = .ok x) (hc : 48 ≤ c.toNat ∧ c.toNat ≤ 57) (hx : x < 1844674407370955162) (hM : x * 10 + (c.toNat - 48) ≤ M) : Lib.parseUintM M acc (l ++ [c]) = .ok (x * 10 + (c.toNat - 48)) := by
  induction l generalizing acc with
  | nil =>
    simp only [Lib.parseUintM, Lib.NumEnd.ok.injEq] at h
    subst h
    simp only [List.nil_append, Lib.parseUintM]
    rw [if_pos hc, if_neg (by omega), if_neg (by omega)]
  | cons d r ih =>
    rw [List.cons_append]
    unfold Lib.parseUintM at h ⊢
    by_cases hd : 48 ≤ d.toNat ∧ d.toNat ≤ 57
    · rw [if_pos hd] at h ⊢
      split at h
      · cases h
      · split at h
        · cases h
        · rename_i h1 h2
          rw [if_neg h1, if_neg h2]
          exact ih _ h
    · rw [if_neg hd] at h
      cases h
theorem dg8 (k : Nat) (h : k < 10) : (UInt8.ofNat (48 + k)).toNat = 48 + k := by
  simp
  omega
theorem dec_digit (u : Nat) : ∀ c ∈ Lib.decDigits u, 48 ≤ c.toNat ∧ c.toNat ≤ 57 := by
  induction u using Nat.strongRecOn with
  | ind u ih =>
    rw [Lib.decDigits]
    split
    · intro c hc
      rw [List.mem_singleton] at hc
      rw [hc, dg8 u (by omega)]
      omega
    · intro c hc
      rcases List.mem_append.1 hc with hc | hc
      · exact ih _ (by omega) c hc
      · rw [List.mem_singleton] at hc
        rw [hc, dg8 (u % 10) (by omega)]
        omega
theorem dec_parse (u : Nat) (hu : u ≤ 18446744073709551615) : Lib.parseUintM (2 ^ 64 - 1) 0 (Lib.decDigits u) = .ok u := by
  induction u using Nat.strongRecOn with
  | ind u ih =>
    rw [Lib.decDigits]
    split
    · rename_i h
      unfold Lib.parseUintM
      rw [dg8 u h, if_pos (by omega), if_neg (by omega), if_neg (by omega)]
      unfold Lib.parseUintM
      congr 1
      omega
    · rename_i h
      have t := pU_snoc (2 ^ 64 - 1) (Lib.decDigits (u / 10)) 0 (u / 10) (UInt8.ofNat (48 + u % 10)) (ih (u / 10) (by omega) (by omega)) (by rw [dg8 _ (by omega)]; omega) (by omega) (by rw [dg8 _ (by omega)]; omega)
      rw [t, dg8 _ (by omega)]
      congr 1
      omega
theorem dec_pos (u : Nat) : 0 < (Lib.decDigits u).length := by
  rw [Lib.decDigits]
  split <;> simp
theorem bt_mem {l : List UInt8} {j : Nat} (h : j < l.length) : ∃ c ∈ l, bt l j = c.toNat := ⟨l[j], List.getElem_mem h, by simp [bt, List.getD, h]⟩
theorem dec_nsz (u : Nat) : nsz (Lib.decDigits u) = (Lib.decDigits u).length := by
  refine nsz_eq (Nat.le_refl _) (fun j hj => ?_) (fun h => absurd h (Nat.lt_irrefl _))
  obtain ⟨c, hc, e⟩ := bt_mem hj
  have := dec_digit u c hc
  rw [e, nmB_iff]
  omega
theorem dec_nuO (u : Nat) (hu : u ≤ 9223372036854775807) : nuO (Lib.decDigits u) = some (u : Int) := by
  have hp := dec_pos u
  have h0 : dgB (bt (Lib.decDigits u) 0) = true := by
    obtain ⟨c, hc, e⟩ := bt_mem hp
    rw [e, dgB_iff]
    exact dec_digit u c hc
  rw [nuO_cap _ (fun e => by rw [e] at hp; simp at hp) h0, dec_parse u (by omega)]
  unfold cap63
  simp only
  rw [if_neg (by omega)]
  rfl
/-- A number's text is one token, that number. -/
theorem num_same (l : List UInt8) (wd : Nat) (v : Int) (h1 : v ≤ 9223372036854775807) : (alB (fst l wd) l 3 && (l == Lib.itoa v)) = (decide (0 ≤ v) && (l == Lib.itoa v)) := by
  by_cases hl : l = Lib.itoa v
  · subst hl
    have hb : (Lib.itoa v == Lib.itoa v) = true := by simp
    rw [hb, Bool.and_true, Bool.and_true]
    by_cases hv : 0 ≤ v
    · obtain ⟨u, rfl⟩ : ∃ u : Nat, v = u := ⟨v.toNat, by omega⟩
      rw [Lib.itoa_nonneg]
      have hp := dec_pos u
      have h0 : dgB (bt (Lib.decDigits u) 0) = true := by
        obtain ⟨c, hc, e⟩ := bt_mem hp
        rw [e, dgB_iff]
        exact dec_digit u c hc
      unfold alB fst
      rw [if_pos (by rw [dec_nsz]; exact hp), if_pos h0, dec_nsz, List.take_length, dec_nuO u (by omega)]
      simp
    · have e : Lib.itoa v = 45 :: Lib.decDigits v.natAbs := by unfold Lib.itoa; rw [if_pos (by omega)]
      rw [e]
      have hz : nsz (45 :: Lib.decDigits v.natAbs) = 0 := nsz_eq (by simp) (fun j hj => absurd hj (by omega)) (fun _ => rfl)
      unfold alB fst
      rw [if_neg (by omega), decide_eq_false hv]
      split <;> simp
  · have hb : (l == Lib.itoa v) = false := by simpa using hl
    rw [hb, Bool.and_false, Bool.and_false]
theorem wd_self {l : List UInt8} (h : wdB l = true) : nsz l = l.length ∧ 0 < l.length ∧ dgB (bt l 0) = false ∧ ¬ l = [95] := by
  unfold wdB at h
  simp only [Bool.or_eq_true, beq_iff_eq] at h
  rcases h with (((((((((((((((h | h) | h) | h) | h) | h) | h) | h) | h) | h) | h) | h) | h) | h) | h) | h) | h <;> rw [h] <;> decide
/-- A text that is one keyword. -/
theorem word_same (l : List UInt8) (wd : Nat) : alB (fst l wd) l 2 = wdB l := by
  rw [Bool.eq_iff_iff]
  unfold alB
  rw [take_all]
  constructor
  · intro h
    simp only [Bool.and_eq_true, decide_eq_true_eq] at h
    obtain ⟨h1, h2, h3⟩ := h
    unfold fst at h1 h2 h3
    by_cases hm : 0 < nsz l
    · rw [if_pos hm] at h1 h2 h3
      cases hd : dgB (bt l 0)
      · rw [hd] at h1 h2 h3
        simp only [Bool.false_eq_true, if_false] at h1 h2 h3
        rw [List.take_of_length_le h3] at h2
        unfold wdK at h2
        split at h2
        · cases h2
        · split at h2
          · assumption
          · split at h2 <;> cases h2
      · rw [hd] at h1 h2 h3
        simp only [if_true] at h1 h2 h3
        split at h2 <;> cases h2
    · rw [if_neg hm] at h2
      split at h2 <;> cases h2
  · intro h
    obtain ⟨a, b, c, d⟩ := wd_self h
    unfold fst
    rw [if_pos (by omega), c]
    simp only [Bool.false_eq_true, if_false]
    rw [a, List.take_length]
    unfold wdK wdE
    rw [if_neg d, if_neg d, if_pos h, if_pos h]
    simp
theorem sgz_le2 (l : List UInt8) : sgz l ≤ 2 := by
  unfold sgz
  split
  · omega
  · exact sg_le2 _ _
/-- A text that is one sign. -/
theorem sign_same (l : List UInt8) (wd : Nat) : alB (fst l wd) l 4 = (!(l == []) && (l.take (rsg l) == l)) := by
  rw [Bool.eq_iff_iff]
  unfold alB
  rw [take_all, take_all]
  simp only [Bool.and_eq_true, decide_eq_true_eq, Bool.not_eq_true', beq_eq_false_iff_ne, ne_eq]
  have hlen : ∀ {x : Nat}, l.length ≤ x → x = 0 → l = [] := fun h e => List.eq_nil_of_length_eq_zero (by omega)
  by_cases hm : 0 < nsz l
  · have h0 := nsz_nm l hm
    have hle := nsz_le l
    constructor
    · rintro ⟨h1, h2, h3⟩
      unfold fst at h1 h2 h3
      rw [if_pos hm] at h1 h2 h3
      cases hd : dgB (bt l 0)
      · rw [hd] at h1 h2 h3
        simp only [Bool.false_eq_true, if_false] at h1 h2 h3
        rw [List.take_of_length_le h3] at h2
        have e : l = [95] := by
          unfold wdK at h2
          split at h2
          · assumption
          · split at h2
            · cases h2
            · split at h2 <;> cases h2
        subst e
        exact ⟨by simp, by decide⟩
      · rw [hd] at h1 h2 h3
        simp only [if_true] at h1 h2 h3
        split at h2 <;> cases h2
    · rintro ⟨h1, h2⟩
      have e : l = [95] := by
        by_cases h95 : bt l 0 = 95
        · rw [rsg_low l h95] at h2
          match l, h1, h2, h95 with
          | [c], _, _, h95 => rw [show c = 95 from UInt8.toNat_inj.1 h95]
        · rw [rsg_sgz l h1 h95] at h2
          exfalso
          have hz : sgz l = 0 := by
            unfold sgz
            rw [if_neg h1]
            rw [nmB_iff] at h0
            unfold sg oneB
            simp only [beq_iff_eq, Bool.or_eq_true]
            generalize bt l 0 = b at *
            generalize bt l 1 = c at *
            (repeat' split) <;> omega
          exact h1 (hlen h2 hz)
      subst e
      exact ⟨rfl, rfl, Nat.le_refl 1⟩
  · unfold fst
    rw [if_neg hm]
    by_cases hn : l = []
    · subst hn
      simp [sgz]
    · have h95 : ¬ bt l 0 = 95 := fun h => by
        have t : nmB (bt l (nsz l)) = false := nsz_end l (by
          have : 0 < l.length := by cases l <;> simp_all
          omega)
        rw [show nsz l = 0 by omega, h] at t
        cases t
      rw [rsg_sgz l hn h95]
      by_cases hg : 0 < sgz l
      · rw [if_pos hg]
        simp [hn]
      · rw [if_neg hg]
        simp
        have : 0 < l.length := List.length_pos_iff.2 hn
        exact fun _ => by omega
/-- What kinds a first token has. -/
theorem kind_other (l : List UInt8) (wd : Nat) (k : Int) (h1 : ¬ k = 1) (h2 : ¬ k = 2) (h3 : ¬ k = 3) (h4 : ¬ k = 4) : alB (fst l wd) l k = false := by
  unfold alB fst
  split
  · split
    · split
      · simp; intro h; omega
      · simp
    · unfold wdK wdE
      split
      · simp; intro h; omega
      · split
        · simp; intro h; omega
        · split
          · simp
          · simp; intro h; omega
  · split
    · simp; intro h; omega
    · simp
def rgB (k : Int) (l : List UInt8) (v : Int) : Bool := if k = 1 then nameB l else if k = 2 then wdB l else if k = 3 then decide (0 ≤ v) && (l == Lib.itoa v) else if k = 4 then !(l == []) && (l.take (rsg l) == l) else decide (k = 5)
/-- A token has a text of its kind, by the program just if by the document. -/
theorem formed_same (k : Int) (l : List UInt8) (v : Int) (wd : Nat) (h1 : v ≤ 9223372036854775807) : fmB k l v wd = (rgB k l v && !(decide (k = 5) && !(l == []))) := by
  unfold fmB rgB
  by_cases e5 : k = 5
  · subst e5
    cases hb : (l == []) <;> simp
  · rw [if_neg e5, decide_eq_false e5, Bool.false_and, Bool.not_false, Bool.and_true]
    by_cases e3 : k = 3
    · subst e3
      simp only [if_true]
      rw [if_neg (by decide), if_neg (by decide)]
      exact num_same l wd v h1
    · rw [if_neg e3]
      by_cases e1 : k = 1
      · subst e1
        rw [if_pos rfl]
        exact name_same l wd
      · rw [if_neg e1]
        by_cases e2 : k = 2
        · subst e2
          rw [if_pos rfl]
          exact word_same l wd
        · rw [if_neg e2, if_neg e3]
          by_cases e4 : k = 4
          · subst e4
            rw [if_pos rfl]
            exact sign_same l wd
          · rw [if_neg e4]
            exact kind_other l wd k e1 e2 e3 e4
end Go.Proofs.YtgdbfedagdlgkaaDoor
