/- A source's tokens, as a plain function. -/
import Derived.Test.YtgdbfedagdlgkaaDoorC1
namespace Go.Proofs.YtgdbfedagdlgkaaDoor
open Go.RowKit Go.Shelf
structure Tk where
  k : Int
  t : ByteArray
  v : Int
  fr : Nat
  en : Nat
def tkc (x : Tk) : List Value := [.int .i64 x.k, .string x.t, .int .i64 x.v, .int .i64 x.fr, .int .i64 x.en]
def tkl (l : List Tk) : List Value := l.flatMap tkc
theorem tkl_len (l : List Tk) : (tkl l).length = l.length * 5 := by
  induction l with
  | nil => rfl
  | cons x r ih =>
    unfold tkl at *
    rw [List.flatMap_cons, List.length_append, ih]
    simp [tkc]
    omega
theorem tkl_snoc (l : List Tk) (x : Tk) : tkl (l ++ [x]) = tkl l ++ tkc x := by simp [tkl]
inductive Res where
  | ok (l : List Tk)
  | bad (c : Int) (f t : Nat)
def blB (b : Nat) : Bool := b == 32 || b == 9 || b == 10 || b == 13
/-- The first token at a place. -/
def fsP (s : ByteArray) (p : Nat) : Int × Nat × Int × Int := fst (s.data.toList.drop p) (Utf8.decode s p).2
def endT (s : ByteArray) : Tk := ⟨5, ⟨#[]⟩, 0, s.size, s.size⟩
def tokT (s : ByteArray) (p : Nat) : Tk := ⟨(fsP s p).1, s.extract p (p + (fsP s p).2.1), (fsP s p).2.2.1, p, p + (fsP s p).2.1⟩
def toks (s : ByteArray) : Nat → Nat → List Tk → Res
  | 0, _, acc => .ok (acc ++ [endT s])
  | f + 1, p, acc =>
    if p < s.size then
      (if blB (bt s.data.toList p) then toks s f (p + 1) acc
       else if 0 < rmk (s.data.toList.drop p) then toks s f (p + rmk (s.data.toList.drop p)) acc
       else if (fsP s p).2.2.2 = 0 then toks s f (p + (fsP s p).2.1) (acc ++ [tokT s p])
       else .bad (fsP s p).2.2.2 p (p + (fsP s p).2.1))
    else .ok (acc ++ [endT s])
theorem toks_end {s : ByteArray} {p : Nat} (f : Nat) (acc : List Tk) (h : ¬ p < s.size) : toks s f p acc = .ok (acc ++ [endT s]) := by
  cases f with
  | zero => rfl
  | succ f =>
    show (if p < s.size then _ else _) = _
    rw [if_neg h]
theorem toks_blank {s : ByteArray} {p : Nat} (f : Nat) (acc : List Tk) (h : p < s.size) (hb : blB (bt s.data.toList p) = true) : toks s (f + 1) p acc = toks s f (p + 1) acc := by
  show (if p < s.size then _ else _) = _
  rw [if_pos h, if_pos hb]
theorem toks_rem {s : ByteArray} {p : Nat} (f : Nat) (acc : List Tk) (h : p < s.size) (hb : blB (bt s.data.toList p) = false) (hr : 0 < rmk (s.data.toList.drop p)) : toks s (f + 1) p acc = toks s f (p + rmk (s.data.toList.drop p)) acc := by
  show (if p < s.size then _ else _) = _
  rw [if_pos h, if_neg (by simp [hb]), if_pos hr]
theorem toks_ok {s : ByteArray} {p : Nat} (f : Nat) (acc : List Tk) (h : p < s.size) (hb : blB (bt s.data.toList p) = false) (hr : rmk (s.data.toList.drop p) = 0) (he : (fsP s p).2.2.2 = 0) : toks s (f + 1) p acc = toks s f (p + (fsP s p).2.1) (acc ++ [tokT s p]) := by
  show (if p < s.size then _ else _) = _
  rw [if_pos h, if_neg (by simp [hb]), if_neg (by omega), if_pos he]
theorem toks_bad {s : ByteArray} {p : Nat} (f : Nat) (acc : List Tk) (h : p < s.size) (hb : blB (bt s.data.toList p) = false) (hr : rmk (s.data.toList.drop p) = 0) (he : ¬ (fsP s p).2.2.2 = 0) : toks s (f + 1) p acc = .bad (fsP s p).2.2.2 p (p + (fsP s p).2.1) := by
  show (if p < s.size then _ else _) = _
  rw [if_pos h, if_neg (by simp [hb]), if_neg (by omega), if_neg he]
theorem sg_asc {b c : Nat} (h : 0 < sg b c) : b < 128 ∧ (sg b c = 2 → c < 128) := by
  unfold sg oneB at *
  simp only [beq_iff_eq, Bool.or_eq_true] at *
  constructor
  · (repeat' split at h) <;> omega
  · (repeat' split) <;> omega
theorem nm_asc {c : Nat} (h : nmB c = true) : c < 128 := by
  rw [nmB_iff] at h
  omega
/-- What is a token has bytes, and letters of one byte alone. -/
theorem fst_ok (l : List UInt8) (wd : Nat) (h : (fst l wd).2.2.2 = 0) : 0 < (fst l wd).2.1 ∧ (fst l wd).2.1 ≤ l.length ∧ ∀ j, j < (fst l wd).2.1 → bt l j < 128 := by
  have hle := nsz_le l
  unfold fst at *
  by_cases hm : 0 < nsz l
  · rw [if_pos hm] at h ⊢
    cases hd : dgB (bt l 0)
    · simp only [Bool.false_eq_true, if_false]
      exact ⟨hm, hle, fun j hj => nm_asc (nsz_nm l hj)⟩
    · simp only [hd, if_true] at h ⊢
      cases hv : nuO (l.take (nsz l))
      · rw [hv] at h
        simp at h
      · exact ⟨hm, hle, fun j hj => nm_asc (nsz_nm l hj)⟩
  · rw [if_neg hm] at h ⊢
    by_cases hg : 0 < sgz l
    · rw [if_pos hg]
      refine ⟨hg, sgz_le l, fun j hj => ?_⟩
      have h2 : sgz l ≤ 2 := by
        unfold sgz
        split
        · omega
        · exact sg_le2 _ _
      have hne : ¬ l = [] := fun e => by rw [e] at hg; simp [sgz] at hg
      have e : sgz l = sg (bt l 0) (bt l 1) := by
        unfold sgz
        rw [if_neg hne]
      have t := sg_asc (b := bt l 0) (c := bt l 1) (by omega)
      have hj' : j < sgz l := hj
      rcases (by omega : j = 0 ∨ j = 1) with rfl | rfl
      · exact t.1
      · exact t.2 (by omega)
    · rw [if_neg hg] at h
      simp at h
theorem fst_le (l : List UInt8) (wd : Nat) (hw : wd ≤ l.length) : (fst l wd).2.1 ≤ l.length := by
  have hle := nsz_le l
  have hg := sgz_le l
  unfold fst
  split
  · split
    · split
      · exact hle
      · exact hle
    · exact hle
  · split
    · exact hg
    · exact hw
theorem fsP_ok (s : ByteArray) (p : Nat) (h : (fsP s p).2.2.2 = 0) : 0 < (fsP s p).2.1 ∧ p + (fsP s p).2.1 ≤ s.size ∧ ∀ j, p ≤ j → j < p + (fsP s p).2.1 → bt s.data.toList j < 128 := by
  have t := fst_ok _ _ h
  have hL := len_of s
  obtain ⟨t1, t2, t3⟩ := t
  unfold fsP at *
  rw [List.length_drop] at t2
  refine ⟨t1, by omega, fun j h1 h2 => ?_⟩
  have := t3 (j - p) (by omega)
  rw [bt_drop, show p + (j - p) = j by omega] at this
  exact this
theorem fsP_le (s : ByteArray) (p : Nat) (hp : p < s.size) : p + (fsP s p).2.1 ≤ s.size := by
  have hL := len_of s
  have hw := width_le s p hp
  have t := fst_le (s.data.toList.drop p) (Utf8.decode s p).2 (by rw [List.length_drop]; omega)
  rw [List.length_drop] at t
  unfold fsP
  omega
theorem index_nat (l : List UInt8) (c : UInt8) : (Lib.indexByte l c = -1 ∧ ∀ j, j < l.length → ¬ bt l j = c.toNat) ∨ ∃ k : Nat, Lib.indexByte l c = k ∧ k < l.length ∧ bt l k = c.toNat ∧ ∀ j, j < k → ¬ bt l j = c.toNat := by
  induction l with
  | nil => exact .inl ⟨rfl, fun j hj => absurd hj (by simp)⟩
  | cons b r ih =>
    unfold Lib.indexByte
    by_cases hb : b = c
    · exact .inr ⟨0, by simp [hb], by simp, by simp [bt, hb], fun j hj => absurd hj (by omega)⟩
    · have hb' : (b == c) = false := by simpa using hb
      have hn : ¬ b.toNat = c.toNat := fun h => hb (UInt8.toNat_inj.1 h)
      rw [hb']
      rcases ih with ⟨h, h0⟩ | ⟨k, h1, h2, h3, h4⟩
      · exact .inl ⟨by simp [h], fun j hj => by
          cases j with
          | zero => simpa [bt] using hn
          | succ j => have := h0 j (by simpa using hj); simpa [bt] using this⟩
      · refine .inr ⟨k + 1, ?_, by simp; omega, by simpa [bt] using h3, fun j hj => ?_⟩
        · have : ¬ (k : Int) = -1 := by omega
          simp [h1, this]
        · cases j with
          | zero => simpa [bt] using hn
          | succ j => have := h4 j (by omega); simpa [bt] using this
/-- A remark goes as far as a byte 10, or the end. -/
theorem rmk_pos (l : List UInt8) (h : 0 < rmk l) : bt l 0 = 47 ∧ bt l 1 = 47 ∧ 1 < l.length ∧ rmk l ≤ l.length ∧ 2 ≤ rmk l ∧ (rmk l = l.length ∨ bt l (rmk l) = 10) ∧ ∀ j, j < rmk l → ¬ bt l j = 10 := by
  cases hp : Lib.hasPrefix l [47, 47]
  · exfalso
    unfold rmk at h
    rw [hp] at h
    simp at h
  · have hl : ∃ r, l = 47 :: 47 :: r := by
      unfold Lib.hasPrefix at hp
      match l, hp with
      | a :: b :: r, hp =>
        simp [List.isPrefixOf] at hp
        exact ⟨r, by rw [← hp.1, ← hp.2]⟩
      | [a], hp => simp [List.isPrefixOf] at hp
      | [], hp => simp [List.isPrefixOf] at hp
    obtain ⟨r, rfl⟩ := hl
    unfold rmk
    rw [hp, if_pos rfl]
    rcases index_nat (47 :: 47 :: r) 10 with ⟨e, h0⟩ | ⟨k, e, h2, h3, h4⟩
    · rw [e, if_neg (by omega)]
      refine ⟨rfl, rfl, by simp, Nat.le_refl _, by simp, .inl rfl, fun j hj => h0 j hj⟩
    · rw [e, if_pos (by omega)]
      have hk2 : 2 ≤ k := by
        rcases (by omega : k = 0 ∨ k = 1 ∨ 2 ≤ k) with rfl | rfl | h
        · simp [bt] at h3
        · simp [bt] at h3
        · exact h
      exact ⟨rfl, rfl, by simp, by simp only [Int.toNat_natCast]; omega, by simpa using hk2, .inr (by simpa using h3), fun j hj => by simpa using h4 j (by simpa using hj)⟩
end Go.Proofs.YtgdbfedagdlgkaaDoor
