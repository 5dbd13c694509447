/- The document's way through a source is the program's. -/
import Derived.Test.YtgdbfedagdlgkaaDoorH4
import Derived.Test.YtgdbfedagdlgkaaDoorH6
namespace Go.Proofs.YtgdbfedagdlgkaaDoor
open Go.RowKit Go.Shelf
theorem toks_fuel (s : ByteArray) (n : Nat) : ∀ (p f f' : Nat) (acc : List Tk), s.size - p ≤ n → s.size ≤ p + f → s.size ≤ p + f' → toks s f p acc = toks s f' p acc := by
  induction n with
  | zero =>
    intro p f f' acc h1 h2 h3
    rw [toks_end f acc (by omega), toks_end f' acc (by omega)]
  | succ n ih =>
    intro p f f' acc h1 h2 h3
    by_cases hp : p < s.size
    · obtain ⟨f, rfl⟩ : ∃ k, f = k + 1 := ⟨f - 1, by omega⟩
      obtain ⟨f', rfl⟩ : ∃ k, f' = k + 1 := ⟨f' - 1, by omega⟩
      cases hb : blB (bt s.data.toList p)
      · by_cases hr : 0 < rmk (s.data.toList.drop p)
        · rw [toks_rem f acc hp hb hr, toks_rem f' acc hp hb hr]
          exact ih _ _ _ _ (by omega) (by omega) (by omega)
        · by_cases he : (fsP s p).2.2.2 = 0
          · rw [toks_ok f acc hp hb (by omega) he, toks_ok f' acc hp hb (by omega) he]
            have := (fsP_ok s p he).1
            exact ih _ _ _ _ (by omega) (by omega) (by omega)
          · rw [toks_bad f acc hp hb (by omega) he, toks_bad f' acc hp hb (by omega) he]
      · rw [toks_blank f acc hp hb, toks_blank f' acc hp hb]
        exact ih _ _ _ _ (by omega) (by omega) (by omega)
    · rw [toks_end f acc hp, toks_end f' acc hp]
theorem blk_step (s : ByteArray) (f p : Nat) : blk s (f + 1) p = if p < s.size then (if blB (bt s.data.toList p) then blk s f (p + 1) else if 0 < rmk (s.data.toList.drop p) then blk s f (p + rmk (s.data.toList.drop p)) else p) else p := rfl
theorem blk_end (s : ByteArray) (f p : Nat) (h : ¬ p < s.size) : blk s f p = p := by
  cases f with
  | zero => rfl
  | succ f => rw [blk_step, if_neg h]
theorem rmk_le (s : ByteArray) (p : Nat) (hr : 0 < rmk (s.data.toList.drop p)) : p + rmk (s.data.toList.drop p) ≤ s.size := by
  obtain ⟨_, _, h3, h4, _⟩ := rmk_pos _ hr
  rw [List.length_drop, len_of] at h3 h4
  omega
theorem onw_of (s : ByteArray) (f : Nat) : ∀ p, stray s f p = none → s.size ≤ p + f → ∀ f', stray s f' p = none := by
  induction f with
  | zero =>
    intro p _ h f'
    exact stray_end f' (by omega)
  | succ f ih =>
    intro p h1 h2 f'
    by_cases hp : p < s.size
    · rw [stray_step f hp] at h1
      cases hb : badB s p
      · rw [hb] at h1
        simp only [Bool.false_eq_true, if_false] at h1
        have hw := Lib.width_pos s p
        have t := ih _ h1 (by omega)
        cases f' with
        | zero => rfl
        | succ f' =>
          rw [stray_step f' hp, hb]
          simp only [Bool.false_eq_true, if_false]
          exact t f'
      · rw [hb] at h1
        simp at h1
    · exact stray_end f' hp
/-- A place between letters, all behind which are letters. -/
def onw (s : ByteArray) (p : Nat) : Prop := ∀ f, stray s f p = none
theorem onw_step {s : ByteArray} {p : Nat} (h : onw s p) (hp : p < s.size) : badB s p = false ∧ onw s (p + (Utf8.decode s p).2) := by
  have hb : badB s p = false := by
    have t := h 1
    rw [stray_step 0 hp] at t
    cases hb : badB s p
    · rfl
    · rw [hb] at t
      simp at t
  refine ⟨hb, fun f => ?_⟩
  have t := h (f + 1)
  rw [stray_step f hp, hb] at t
  simpa using t
theorem onw_skip (s : ByteArray) (n : Nat) : ∀ p d, d - p ≤ n → p ≤ d → Skp s p d → onw s p → onw s d := by
  induction n with
  | zero =>
    intro p d h1 h2 _ h
    obtain rfl : p = d := by omega
    exact h
  | succ n ih =>
    intro p d h1 h2 hs h
    rcases Nat.lt_or_ge p d with hlt | hge
    · have hw := Lib.width_pos s p
      obtain ⟨k1, k2⟩ := skp_step hs hlt
      exact ih _ _ (by omega) k1 k2 (onw_step h (by have := hs.1; omega)).2
    · obtain rfl : p = d := by omega
      exact h
/-- Behind blanks and remarks: the same tokens come; there is neither blank nor remark; it is between letters. -/
theorem blk_spec (s : ByteArray) (n : Nat) : ∀ (p g f f' : Nat) (acc : List Tk), s.size - p ≤ n → p ≤ s.size → s.size ≤ p + g → s.size ≤ p + f → s.size ≤ blk s g p + f' →
    toks s f p acc = toks s f' (blk s g p) acc ∧ p ≤ blk s g p ∧ blk s g p ≤ s.size ∧ (blk s g p < s.size → blB (bt s.data.toList (blk s g p)) = false ∧ rmk (s.data.toList.drop (blk s g p)) = 0) ∧ (onw s p → onw s (blk s g p)) := by
  induction n with
  | zero =>
    intro p g f f' acc h1 h2 h3 h4 h5
    rw [blk_end s g p (by omega)] at h5 ⊢
    exact ⟨toks_fuel s _ _ _ _ _ (Nat.le_refl _) h4 h5, Nat.le_refl _, h2, fun h => absurd h (by omega), id⟩
  | succ n ih =>
    intro p g f f' acc h1 h2 h3 h4 h5
    by_cases hp : p < s.size
    · obtain ⟨g, rfl⟩ : ∃ k, g = k + 1 := ⟨g - 1, by omega⟩
      obtain ⟨f, rfl⟩ : ∃ k, f = k + 1 := ⟨f - 1, by omega⟩
      rw [blk_step, if_pos hp] at h5 ⊢
      cases hb : blB (bt s.data.toList p)
      · rw [hb] at h5
        simp only [Bool.false_eq_true, if_false] at h5 ⊢
        by_cases hr : 0 < rmk (s.data.toList.drop p)
        · rw [if_pos hr] at h5 ⊢
          have hle := rmk_le s p hr
          obtain ⟨e, a1, a2, a3, a4⟩ := ih (p + rmk (s.data.toList.drop p)) g f f' acc (by omega) hle (by omega) (by omega) h5
          refine ⟨by rw [toks_rem f acc hp hb hr]; exact e, by omega, a2, a3, fun ho => a4 ?_⟩
          obtain ⟨r0, _, _, _, _, r5, _⟩ := rmk_pos _ hr
          rw [List.length_drop, len_of] at r5
          rw [bt_drop] at r5
          exact onw_skip s _ p _ (Nat.le_refl _) (by omega) ⟨hle, .inl (r5.elim (fun h => .inl (by omega)) fun h => .inr (by omega))⟩ ho
        · rw [if_neg hr] at h5 ⊢
          exact ⟨toks_fuel s _ _ _ _ _ (Nat.le_refl _) h4 h5, Nat.le_refl _, h2, fun _ => ⟨hb, by omega⟩, id⟩
      · rw [hb] at h5
        simp only [if_true] at h5 ⊢
        obtain ⟨e, a1, a2, a3, a4⟩ := ih (p + 1) g f f' acc (by omega) (by omega) (by omega) (by omega) h5
        refine ⟨by rw [toks_blank f acc hp hb]; exact e, by omega, a2, a3, fun ho => a4 ?_⟩
        have hbv := (blB_iff _).1 hb
        have t := (onw_step ho hp).2
        rw [dec_asc s p (by omega)] at t
        exact t
    · rw [blk_end s g p hp] at h5 ⊢
      exact ⟨toks_fuel s _ _ _ _ _ (Nat.le_refl _) h4 h5, Nat.le_refl _, h2, fun h => absurd h hp, id⟩
theorem wd_short {l : List UInt8} (h : wdB l = true) : l.length ≤ 8 := by
  unfold wdB at h
  simp only [Bool.or_eq_true, beq_iff_eq] at h
  rcases h with (((((((((((((((h | h) | h) | h) | h) | h) | h) | h) | h) | h) | h) | h) | h) | h) | h) | h) | h <;> rw [h] <;> decide
theorem take2 (l : List UInt8) (x y : UInt8) (h : 2 ≤ l.length) : l.take 2 = [x, y] ↔ bt l 0 = x.toNat ∧ bt l 1 = y.toNat := by
  match l, h with
  | a :: b :: r, _ =>
    simp only [List.take_succ_cons, List.take_zero, List.cons.injEq, and_true]
    have e0 : bt (a :: b :: r) 0 = a.toNat := rfl
    have e1 : bt (a :: b :: r) 1 = b.toNat := rfl
    rw [e0, e1]
    constructor
    · rintro ⟨rfl, rfl⟩
      exact ⟨rfl, rfl⟩
    · rintro ⟨h1, h2⟩
      exact ⟨UInt8.toNat_inj.1 h1, UInt8.toNat_inj.1 h2⟩
/-- The longest sign by the document is the program's, but of _ . -/
theorem rsg_sgz (l : List UInt8) (hne : l ≠ []) (h : ¬ bt l 0 = 95) : rsg l = sgz l := by
  unfold rsg sgz
  rw [if_neg hne]
  by_cases h2 : 2 ≤ l.length
  · simp only [take2 l _ _ h2, h2, true_and]
    unfold sg oneB
    simp only [beq_iff_eq, Bool.or_eq_true]
    generalize bt l 0 = b at *
    generalize bt l 1 = c at *
    show (if (b = 58 ∧ c = 58) ∨ (b = 45 ∧ c = 62) ∨ (b = 61 ∧ c = 62) ∨ (b = 61 ∧ c = 61) ∨ (b = 33 ∧ c = 61) ∨ (b = 60 ∧ c = 61) ∨ (b = 62 ∧ c = 61) ∨ (b = 38 ∧ c = 38) ∨ (b = 124 ∧ c = 124) then 2 else _) = _
    (repeat' split) <;> omega
  · have e1 : bt l 1 = 0 := by
      unfold bt List.getD
      rw [List.getElem?_eq_none (by omega)]
      rfl
    rw [if_neg (fun hx => h2 hx.1), e1]
    unfold sg oneB
    simp only [beq_iff_eq, Bool.or_eq_true]
    generalize bt l 0 = b at *
    (repeat' split) <;> omega
theorem rsg_low (l : List UInt8) (h : bt l 0 = 95) : rsg l = 1 := by
  unfold rsg
  by_cases h2 : 2 ≤ l.length
  · simp only [take2 l _ _ h2, h2, true_and, h]
    rw [if_neg (by rintro (⟨e, _⟩ | ⟨e, _⟩ | ⟨e, _⟩ | ⟨e, _⟩ | ⟨e, _⟩ | ⟨e, _⟩ | ⟨e, _⟩ | ⟨e, _⟩ | ⟨e, _⟩) <;> exact absurd e (by decide)), if_pos (by decide)]
  · rw [if_neg (fun hx => h2 hx.1), h, if_pos (by decide)]
end Go.Proofs.YtgdbfedagdlgkaaDoor
