/- Between two tokens lie blanks and remarks alone. -/
import Derived.Test.YtgdbfedagdlgkaaDoorH7
namespace Go.Proofs.YtgdbfedagdlgkaaDoor
open Go.RowKit Go.Shelf
theorem rmk_eq (l : List UInt8) (k : Nat) (h0 : bt l 0 = 47) (h1 : bt l 1 = 47) (h2 : 2 ≤ k) (h3 : k ≤ l.length) (h4 : k = l.length ∨ bt l k = 10) (h5 : ∀ j, j < k → ¬ bt l j = 10) : rmk l = k := by
  match l, h0, h1, h3, h4, h5 with
  | a :: b :: r, h0, h1, h3, h4, h5 =>
    obtain rfl : a = 47 := UInt8.toNat_inj.1 h0
    obtain rfl : b = 47 := UInt8.toNat_inj.1 h1
    have hp : Lib.hasPrefix (47 :: 47 :: r) [47, 47] = true := by simp [Lib.hasPrefix, List.isPrefixOf]
    unfold rmk
    rw [hp, if_pos rfl]
    rcases index_nat (47 :: 47 :: r) 10 with ⟨e, g0⟩ | ⟨m, e, g2, g3, g4⟩
    · rw [e, if_neg (by omega)]
      rcases h4 with h4 | h4
      · exact h4.symm
      · rcases Nat.lt_or_ge k (47 :: 47 :: r).length with hk | hk
        · exact absurd h4 (g0 k hk)
        · omega
    · rw [e, if_pos (by omega), Int.toNat_natCast]
      rcases Nat.lt_trichotomy m k with hk | hk | hk
      · exact absurd g3 (h5 m hk)
      · exact hk
      · rcases h4 with h4 | h4
        · omega
        · exact absurd h4 (g4 k hk)
  | [a], _, _, h3, _, _ => simp at h3; omega
  | [], _, _, h3, _, _ => simp at h3; omega
theorem ext_len (s : ByteArray) {a q : Nat} (hq : q ≤ s.size) : (s.extract a q).size = q - a := by simp; omega
theorem ext_bt (s : ByteArray) {a q j : Nat} (hj : a + j < q) : bt (s.extract a q).data.toList j = bt s.data.toList (a + j) := by
  rw [toList_cut, bt_take _ (by omega), bt_drop]
theorem ext_rmk (s : ByteArray) {a q p : Nat} (hq : q ≤ s.size) (hp : a ≤ p) (hr : 0 < rmk (s.data.toList.drop p)) (he : p + rmk (s.data.toList.drop p) ≤ q) : rmk ((s.extract a q).data.toList.drop (p - a)) = rmk (s.data.toList.drop p) := by
  have hL := len_of s
  obtain ⟨r0, r1, r2, r3, r4, r5, r6⟩ := rmk_pos _ hr
  generalize rmk (s.data.toList.drop p) = k at *
  have hx := ext_len s (a := a) hq
  have hz : ((s.extract a q).data.toList.drop (p - a)).length = q - p := by rw [List.length_drop, len_of, hx]; omega
  have hb : ∀ j, p + j < q → bt ((s.extract a q).data.toList.drop (p - a)) j = bt (s.data.toList.drop p) j := fun j hj => by
    rw [bt_drop, ext_bt s (by omega), bt_drop]
    congr 1
    omega
  refine rmk_eq _ k (by rw [hb 0 (by omega)]; exact r0) (by rw [hb 1 (by omega)]; exact r1) r4 (by omega) ?_ (fun j hj => by rw [hb j (by omega)]; exact r6 j hj)
  rcases Nat.lt_or_ge (p + k) q with h | h
  · rw [hb k h]
    rcases r5 with r5 | r5
    · rw [List.length_drop] at r5
      omega
    · exact .inr r5
  · exact .inl (by omega)
/-- Blanks and remarks alone. -/
inductive Gap (s : ByteArray) (q : Nat) : Nat → Prop
  | nil : Gap s q q
  | blank (p : Nat) : p < s.size → blB (bt s.data.toList p) = true → Gap s q (p + 1) → Gap s q p
  | rem (p : Nat) : p < s.size → blB (bt s.data.toList p) = false → 0 < rmk (s.data.toList.drop p) → Gap s q (p + rmk (s.data.toList.drop p)) → Gap s q p
theorem Gap.le {s : ByteArray} {q p : Nat} (h : Gap s q p) : p ≤ q := by
  induction h with
  | nil => exact Nat.le_refl _
  | blank p _ _ _ ih => omega
  | rem p _ _ _ _ ih => omega
theorem Gap.trans {s : ByteArray} {q p r : Nat} (h : Gap s q p) (h2 : Gap s r q) : Gap s r p := by
  induction h with
  | nil => exact h2
  | blank p a b _ ih => exact .blank p a b ih
  | rem p a b c _ ih => exact .rem p a b c ih
theorem gap_toks {s : ByteArray} {a q p : Nat} (h : Gap s q p) (hq : q ≤ s.size) (ha : a ≤ p) (f : Nat) (acc : List Tk) : toks (s.extract a q) f (p - a) acc = .ok (acc ++ [endT (s.extract a q)]) := by
  have hx := ext_len s (a := a) hq
  induction h generalizing f with
  | nil => exact toks_end f acc (by omega)
  | blank p h1 h2 h3 ih =>
    cases f with
    | zero => rfl
    | succ f =>
      have hle := h3.le
      rw [toks_blank f acc (by omega) (by rw [ext_bt s (by omega), show a + (p - a) = p by omega]; exact h2), show p - a + 1 = p + 1 - a by omega]
      exact ih (by omega) f
  | rem p h1 h2 h3 h4 ih =>
    cases f with
    | zero => rfl
    | succ f =>
      have hle := h4.le
      have e := ext_rmk s hq ha h3 hle
      rw [toks_rem f acc (by omega) (by rw [ext_bt s (by omega), show a + (p - a) = p by omega]; exact h2) (by rw [e]; exact h3), e, show p - a + rmk (s.data.toList.drop p) = p + rmk (s.data.toList.drop p) - a by omega]
      exact ih (by omega) f
theorem ext_dec (s : ByteArray) {a q p : Nat} (hq : q ≤ s.size) (ha : a ≤ p) (hp : p < q) (hg : badB s p = false) (hw : p + (Utf8.decode s p).2 ≤ q) : Utf8.decode (s.extract a q) (p - a) = Utf8.decode s p := by
  have hx := ext_len s (a := a) hq
  have hb : ∀ j, p + j < q → bt (s.extract a q).data.toList (p - a + j) = bt s.data.toList (p + j) := fun j hj => by
    rw [ext_bt s (by omega)]
    congr 1
    omega
  unfold badB at hg
  rw [Lib.decode_at] at hg hw ⊢
  rw [Lib.decode_at]
  simp only [get_bt] at hg hw ⊢
  rw [hx, show q - a - (p - a) = q - p by omega, show bt (s.extract a q).data.toList (p - a) = bt s.data.toList p from hb 0 (by omega)]
  have b1 := hb 1
  have b2 := hb 2
  have b3 := hb 3
  generalize bt (s.extract a q).data.toList (p - a + 1) = c1 at *
  generalize bt (s.extract a q).data.toList (p - a + 2) = c2 at *
  generalize bt (s.extract a q).data.toList (p - a + 3) = c3 at *
  generalize bt s.data.toList (p + 1) = d1 at *
  generalize bt s.data.toList (p + 2) = d2 at *
  generalize bt s.data.toList (p + 3) = d3 at *
  generalize bt s.data.toList p = d0 at *
  clear hb
  unfold Lib.decodeN at hg hw ⊢
  by_cases k0 : d0 < 128
  · rw [if_pos k0, if_pos k0]
  · rw [if_neg k0] at hg hw
    rw [if_neg k0, if_neg k0]
    by_cases k1 : d0 / 32 = 6 ∧ (1 < s.size - p ∧ d1 / 64 = 2)
    · rw [if_pos k1] at hg hw
      rw [if_pos k1]
      by_cases k2 : d0 % 32 * 64 + d1 % 64 ≥ 128
      · rw [if_pos k2] at hw
        simp only at hw
        rw [if_pos (by have := b1 (by omega); omega), b1 (by omega)]
      · rw [if_neg k2] at hg
        simp at hg
    · rw [if_neg k1] at hg hw
      rw [if_neg k1]
      by_cases k3 : d0 / 16 = 14 ∧ (1 < s.size - p ∧ d1 / 64 = 2) ∧ (2 < s.size - p ∧ d2 / 64 = 2)
      · rw [if_pos k3] at hg hw
        rw [if_pos k3]
        split at hw
        · simp only at hw
          obtain rfl := b1 (by omega)
          obtain rfl := b2 (by omega)
          rw [if_neg (by omega), if_pos (by omega)]
        · rename_i k4
          rw [if_neg k4] at hg
          simp at hg
      · rw [if_neg k3] at hg hw
        rw [if_neg k3]
        by_cases k5 : d0 / 8 = 30 ∧ (1 < s.size - p ∧ d1 / 64 = 2) ∧ (2 < s.size - p ∧ d2 / 64 = 2) ∧ (3 < s.size - p ∧ d3 / 64 = 2)
        · rw [if_pos k5] at hg hw
          rw [if_pos k5]
          split at hw
          · simp only at hw
            obtain rfl := b1 (by omega)
            obtain rfl := b2 (by omega)
            obtain rfl := b3 (by omega)
            rw [if_neg (by omega), if_neg (by omega), if_pos (by omega)]
          · rename_i k4
            rw [if_neg k4] at hg
            simp at hg
        · rw [if_neg k5] at hg
          simp at hg
theorem gap_stray {s : ByteArray} {a q : Nat} (hq : q ≤ s.size) (hB : q = s.size ∨ bt s.data.toList q < 128) (f : Nat) : ∀ p, a ≤ p → p ≤ q → onw s p → stray (s.extract a q) f (p - a) = none := by
  have hx := ext_len s (a := a) hq
  induction f with
  | zero => intro p _ _ _; rfl
  | succ f ih =>
    intro p h1 h2 ho
    by_cases hp : p < q
    · obtain ⟨g1, g2⟩ := onw_step ho (by omega)
      obtain ⟨k1, _⟩ := skp_step (s := s) (p := p) (d := q) ⟨hq, .inl hB⟩ hp
      have e := ext_dec s hq h1 hp g1 k1
      rw [stray_step f (by omega)]
      have hb : badB (s.extract a q) (p - a) = false := by
        unfold badB at g1 ⊢
        rw [e]
        exact g1
      rw [hb, e]
      simp only [Bool.false_eq_true, if_false]
      rw [show p - a + (Utf8.decode s p).2 = p + (Utf8.decode s p).2 - a by omega]
      exact ih _ (by omega) k1 g2
    · exact stray_end _ (by omega)
theorem gap_tokR {s : ByteArray} {a q : Nat} (h : Gap s q a) (hq : q ≤ s.size) (hs : s.size ≤ 65536) (ho : onw s a) (hB : q = s.size ∨ bt s.data.toList q < 128) : tokR (s.extract a q) = .ok [endT (s.extract a q)] := by
  have hx := ext_len s (a := a) hq
  unfold tokR
  have hs' := gap_stray (a := a) hq hB (s.extract a q).size a (Nat.le_refl _) h.le ho
  have ht := gap_toks (a := a) h hq (Nat.le_refl _) (s.extract a q).size []
  rw [Nat.sub_self] at hs' ht
  rw [if_neg (by omega), hs']
  exact ht
/-- The tokens cover the source. -/
def Cov (s : ByteArray) : Nat → List Tk → Prop
  | _, [] => False
  | a, x :: r => (a ≤ x.fr ∧ x.fr ≤ x.en ∧ x.en ≤ s.size) ∧ s.extract x.fr x.en = x.t ∧ tokR (s.extract a x.fr) = .ok [endT (s.extract a x.fr)] ∧ ((x.k = 5 ∧ r = [] ∧ x.en = s.size) ∨ (¬ x.k = 5 ∧ Cov s x.en r))
theorem kind_ne (l : List UInt8) (wd : Nat) : ¬ (fst l wd).1 = 5 := by
  unfold fst
  split
  · split
    · split
      · simp
      · simp
    · simp only [wdK]
      repeat' split
      all_goals decide
  · split
    · simp
    · simp
theorem toks_cov (s : ByteArray) (hs : s.size ≤ 65536) (f : Nat) : ∀ (p a : Nat) (acc l : List Tk), s.size ≤ p + f → Gap s p a → p ≤ s.size → onw s a → onw s p → toks s f p acc = .ok l → ∃ l', l = acc ++ l' ∧ Cov s a l' := by
  induction f with
  | zero =>
    intro p a acc l h1 hG hp ho1 ho2 ht
    obtain rfl : p = s.size := by omega
    rw [toks_end _ _ (by omega)] at ht
    cases ht
    refine ⟨_, rfl, ⟨hG.le, Nat.le_refl _, Nat.le_refl _⟩, ?_, gap_tokR hG (Nat.le_refl _) hs ho1 (.inl rfl), .inl ⟨rfl, rfl, rfl⟩⟩
    show s.extract s.size s.size = ⟨#[]⟩
    exact bytes_ext (by rw [toList_cut]; simp)
  | succ f ih =>
    intro p a acc l h1 hG hp ho1 ho2 ht
    by_cases hlt : p < s.size
    · cases hb : blB (bt s.data.toList p)
      · by_cases hr : 0 < rmk (s.data.toList.drop p)
        · rw [toks_rem f acc hlt hb hr] at ht
          have hle := rmk_le s p hr
          refine ih _ a acc l (by omega) (hG.trans (.rem p hlt hb hr .nil)) hle ho1 ?_ ht
          obtain ⟨r0, _, _, _, _, r5, _⟩ := rmk_pos _ hr
          rw [List.length_drop, len_of] at r5
          rw [bt_drop] at r5
          exact onw_skip s _ p _ (Nat.le_refl _) (by omega) ⟨hle, .inl (r5.elim (fun h => .inl (by omega)) fun h => .inr (by omega))⟩ ho2
        · by_cases he : (fsP s p).2.2.2 = 0
          · rw [toks_ok f acc hlt hb (by omega) he] at ht
            obtain ⟨k1, k2, k3⟩ := fsP_ok s p he
            have hon := onw_skip s _ p (p + (fsP s p).2.1) (Nat.le_refl _) (by omega) ⟨k2, .inr k3⟩ ho2
            obtain ⟨l', rfl, hc⟩ := ih _ (p + (fsP s p).2.1) _ l (by omega) .nil k2 hon hon ht
            refine ⟨tokT s p :: l', by simp, ⟨hG.le, by show p ≤ p + _; omega, k2⟩, rfl, gap_tokR (q := p) hG (by omega) hs ho1 (.inr (k3 p (Nat.le_refl _) (by omega))), .inr ⟨kind_ne _ _, hc⟩⟩
          · rw [toks_bad f acc hlt hb (by omega) he] at ht
            cases ht
      · rw [toks_blank f acc hlt hb] at ht
        refine ih _ a acc l (by omega) (hG.trans (.blank p hlt hb .nil)) (by omega) ho1 ?_ ht
        have hbv := (blB_iff _).1 hb
        have t := (onw_step ho2 hlt).2
        rw [dec_asc s p (by omega)] at t
        exact t
    · obtain rfl : p = s.size := by omega
      rw [toks_end _ _ (by omega)] at ht
      cases ht
      refine ⟨_, rfl, ⟨hG.le, Nat.le_refl _, Nat.le_refl _⟩, ?_, gap_tokR hG (Nat.le_refl _) hs ho1 (.inl rfl), .inl ⟨rfl, rfl, rfl⟩⟩
      show s.extract s.size s.size = ⟨#[]⟩
      exact bytes_ext (by rw [toList_cut]; simp)
theorem toks_bad_at (s : ByteArray) (f : Nat) : ∀ (p : Nat) (acc : List Tk) (c : Int) (x y : Nat), toks s f p acc = .bad c x y → ¬ c = 0 ∧ x ≤ y ∧ y ≤ s.size := by
  induction f with
  | zero => intro p acc c x y h; cases h
  | succ f ih =>
    intro p acc c x y h
    by_cases hlt : p < s.size
    · cases hb : blB (bt s.data.toList p)
      · by_cases hr : 0 < rmk (s.data.toList.drop p)
        · rw [toks_rem f acc hlt hb hr] at h
          exact ih _ _ _ _ _ h
        · by_cases he : (fsP s p).2.2.2 = 0
          · rw [toks_ok f acc hlt hb (by omega) he] at h
            exact ih _ _ _ _ _ h
          · rw [toks_bad f acc hlt hb (by omega) he] at h
            have := fsP_le s p hlt
            cases h
            exact ⟨he, by omega, this⟩
      · rw [toks_blank f acc hlt hb] at h
        exact ih _ _ _ _ _ h
    · rw [toks_end _ _ hlt] at h
      cases h
theorem tokR_bad {s : ByteArray} {c : Int} {x y : Nat} (h : tokR s = .bad c x y) : ¬ c = 0 ∧ x ≤ y ∧ y ≤ s.size := by
  unfold tokR at h
  split at h
  · cases h
    exact ⟨by decide, Nat.le_refl _, Nat.zero_le _⟩
  · cases hst : stray s s.size 0 with
    | some p =>
      rw [hst] at h
      have := stray_lt _ _ _ _ hst
      cases h
      exact ⟨by decide, by omega, by omega⟩
    | none =>
      rw [hst] at h
      exact toks_bad_at s _ _ _ _ _ _ h
theorem tokR_ok {s : ByteArray} {l : List Tk} (h : tokR s = .ok l) : s.size ≤ 65536 ∧ Cov s 0 l := by
  unfold tokR at h
  split at h
  · cases h
  · rename_i hs
    cases hst : stray s s.size 0 with
    | some p =>
      rw [hst] at h
      cases h
    | none =>
      rw [hst] at h
      have ho : onw s 0 := onw_of s _ 0 hst (by omega)
      obtain ⟨l', rfl, hc⟩ := toks_cov s (by omega) _ 0 0 [] l (by omega) .nil (Nat.zero_le _) ho ho h
      exact ⟨by omega, hc⟩
end Go.Proofs.YtgdbfedagdlgkaaDoor
